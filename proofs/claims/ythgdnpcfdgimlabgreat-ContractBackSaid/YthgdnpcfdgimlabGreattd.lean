/- td: CGetL CGetF0 CGetF CGetC CGet CGetM CGetB CGetA1 CGetA CBack (made by shake.py). -/
import Derived.Test.YthgdnpcfdgimlabGreattc
/- Layer 6: the program's lists are read. (Made by gen/gencgetl.py.) -/
namespace Go.Proofs.YthgdnpcfdgimlabGreat
open Go.RowKit
set_option linter.unusedVariables false
set_option linter.unusedSimpArgs false
set_option maxRecDepth 20000

/-- a part without rows -/
def okNone {β : Type} (S : Nat → Prop) (w : World) (q : β) : Prop := True
theorem step4_le16 (most : Nat) (rest r1 : List UInt8) (e0 : Int) (c : Nat) (hm : most ≤ 16) (h : stepF 4 (alCount (most : Int)) rest e0 = (c, r1, 0)) : c ≤ 16 := by
  unfold stepF at h
  split at h
  · rename_i h0
    injection h with h1 h2
    omega
  split at h
  · injection h with h1 h2
    injection h2 with h2 h3
    cases h3
  split at h
  · rename_i h0
    injection h with h1 h2
    injection h2 with h2 h3
    exact absurd h3 h0
  · rename_i h0
    injection h with h1 h2
    unfold alCount ceilE at h0
    by_cases hc : max (most : Int) 0 < (wordN (rest.take 4) : Int)
    · rw [if_pos hc] at h0
      exact absurd h0 (by decide)
    · omega
theorem step4_no (al : Int → Int) (rest r1 : List UInt8) (e0 e1 : Int) (c : Nat) (he : e1 ≠ 0) (h : stepF 4 al rest e0 = (c, r1, e1)) : c = 0 := by
  unfold stepF at h
  split at h
  · injection h with h1 h2; exact h1.symm
  split at h
  · injection h with h1 h2; exact h1.symm
  split at h
  · injection h with h1 h2; exact h1.symm
  · injection h with h1 h2
    injection h2 with h2 h3
    exact absurd h3.symm he
def BadStr (u : Value) : Prop := ∃ s, u = .string s
theorem infoStr : (Tryz.prog.info? 9).map (fun i => (i.zero, i.size, i.bytes)) = some (some (.string ⟨#[]⟩), 1, 16) := by kernel_rfl
theorem mvkStr (S T : Nat → Prop) (w w' : World) (q : ByteArray) (h : Kept S T w w') (hz : w.heap.size ≤ w'.heap.size) (hq : okNone S w q) : okNone T w' q := trivial
set_option maxHeartbeats 4000000 in
theorem getL_Str (g most : Nat) (G : List UInt8 → Except Int (ByteArray × List UInt8)) (rest : List UInt8) (e0 : Int) (w : World) (hr : RdR w g rest e0) (hlen : rest.length ≤ 1000000000000) (hm : most ≤ 16)
    (hG : ∀ r W, RdR W g r 0 → r.length ≤ 1000000000000 → Calls Tryz.prog 142 #[.pointer (some ⟨g, 0, none⟩)] W (ElP BadStr g Value.string id okNone (G r) W))
    (hne : ∀ r er, G r = .error er → er ≠ 0) (hbd : ∀ r x r', G r = .ok (x, r') → r'.length ≤ r.length) :
    Calls Tryz.prog 141 #[.pointer (some ⟨g, 0, none⟩), .int .i64 most, .func (Fn.func 142) #[] #[]] w (LsP g 9 1 strC id okNone (getS G (stepF 4 (alCount (most : Int)) rest e0)) w) := by
  have hcnt := Count_any g rest e0 (most : Int) (by omega) (by omega) w hr
  have hl1 := stepF_len 4 (alCount (most : Int)) rest e0
  have hcl := step4_le (alCount (most : Int)) rest e0
  rcases hst : stepF 4 (alCount (most : Int)) rest e0 with ⟨c, r1, e1⟩
  have hno : e1 ≠ 0 → c = 0 := fun he => step4_no _ _ _ _ _ _ he hst
  have hyes : e1 = 0 → c ≤ 16 := fun he => step4_le16 most rest r1 e0 c hm (by rw [← he]; exact hst)
  rw [hst] at hcnt hl1 hcl
  dsimp only at hcnt hl1 hcl
  rw [wrap64_of (c : Int) ⟨by omega, by omega⟩] at hcnt
  have HCN := Lib.hid hcnt
  clear hcl
  have HGW := Lib.hid hr.lt
  clear hcnt
  by_cases he : e1 = 0
  · subst he
    have hc16 : c ≤ 16 := hyes rfl
    have hL : getS G (c, r1, 0) = getN G c r1 := if_pos rfl
    rw [hL]
    clear hL hyes hno hst
    generalize hL : getN G c r1 = L
    have HL := Lib.hid hL
    have HLEN := Lib.hid (show r1.length ≤ 1000000000000 from Nat.le_trans hl1 hlen)
    have HG := Lib.hid hG
    have HNE := Lib.hid hne
    have HBD := Lib.hid hbd
    have HC16 := Lib.hid hc16
    clear hL hl1 hlen hG hne hbd hr hm hc16
    obtain ⟨i1, hi1, hz1, hsz1, hby1⟩ := infoZ infoStr
    have hsf := fun (w : World) (a : Addr) (m : Mode) (b : Nat) => run_store Tryz.prog w a (.float .f64 b) m rfl
    go_enter Tryz.func141, Tryz.ntmps141
    go_wp2_with fail
    refine HCN.out.mono ?_
    rintro _ w1 ⟨rfl, hrd, hon⟩
    have HRD := Lib.hid hrd
    have HON := Lib.hid hon
    clear hrd hon HCN
    go_wp2
    go_loopw [8, 14] (fun row i wr => ∃ (k : Nat) (qs : List ByteArray) (rk : List UInt8), k ≤ c ∧ i = .int .i64 k ∧ LsI G w g 9 1 strC id okNone c L wr k qs rk row) (fun _ i _ => c - (intOf i).toNat)
    case atStart => exact ⟨0, [], r1, Nat.zero_le _, rfl, ⟨rfl, (by rw [List.map_nil, preN_nil, Nat.sub_zero]; exact HL.out), HLEN.out, HRD.out, World.ownsRow_nil _ _ _ _, (fun q hq => by cases hq), HON.out⟩⟩
    case round =>
      obtain ⟨k, qs, rk, hk, rfl, hi⟩ := hrel
      have HI := Lib.hid hi
      clear hi HRD HON
      by_cases hlt : k < c
      · have hltI : (k : Int) < (c : Int) := by omega
        have hcall := HG.out rk wr HI.out.rd HI.out.len
        rcases hx : G rk with er | ⟨x, r'⟩
        · rw [hx] at hcall
          have hL : L = .error er := by rw [← HI.out.pre, show c - k = c - (k + 1) + 1 by omega]; exact preN_no _ hx
          have herb : (er != 0) = true := by simpa using HNE.out rk er hx
          subst hL
          have HC := Lib.hid (show Calls _ _ _ _ (fun e w' => ∃ u, BadStr u ∧ e = .returned (.tuple #[u, .int .i64 er]) ∧ (∃ r' e', RdR w' g r' e') ∧ Only g wr w') from hcall)
          clear hcall hx hlt
          go_wp2_with fail
          refine HC.out.mono ?_
          rintro _ wA ⟨u, hu, rfl, hrA, hoA⟩
          obtain ⟨s0, rfl⟩ := hu
          have HRA := Lib.hid hrA
          have HOA := Lib.hid (HI.out.on.trans hoA)
          clear hrA hoA HC
          go_wp2
          exact bodyPost_ret (v := .tuple #[.slice none 0 0, .int .i64 er]) (by simp [results, Tryz.results141, go_sem]) rfl ⟨rfl, HRA.out, HOA.out⟩
        · rw [hx] at hcall
          have HC := Lib.hid (show Calls _ _ _ _ (fun e w' => ∃ q : ByteArray, id q = x ∧ e = .returned (.tuple #[.string q, .int .i64 0]) ∧ okNone (fun b => wr.heap.size ≤ b) w' q ∧ RdR w' g r' 0 ∧ Only g wr w') from hcall)
          have HX := Lib.hid hx
          have HLT := Lib.hid hlt
          have HLI := Lib.hid hltI
          have HRL := Lib.hid (HBD.out _ _ _ hx)
          clear hcall hx
          go_wp2_with fail
          refine HC.out.mono ?_
          rintro _ wA ⟨q, hq, rfl, hel, hrdA, hoA⟩
          have HQ := Lib.hid (show G rk = .ok (id q, r') by rw [hq]; exact HX.out)
          have HEL := Lib.hid hel
          have HRA := Lib.hid hrdA
          have HOA := Lib.hid hoA
          have h00 : ((0 : Int) != 0) = false := rfl
          have hownA := own_only HI.out.own hoA HGW.out
          have HOW := Lib.hid (hownA.alloc (.cells (strC q).toArray 9))
          have hrw := rows_one wA (strC q) 9 1 rfl
          have HRW := Lib.hid hrw
          clear hrw hq hel hrdA hoA hownA hlt HC HX
          have hb1 : k + 1 ≤ maxLen := by have := HC16.out; have := HLT.out; unfold maxLen; omega
          have hb2 : (k + 1) * 16 ≤ 140737488355328 := by have := HC16.out; have := HLT.out; omega
          have hb4 : ∀ u ∈ strC q, u.oneCell' = true := by
            intro u hu
            simp only [strC, List.mem_cons, List.not_mem_nil, or_false] at hu
            subst hu; rfl
          have HBS := Lib.hid (And.intro hb1 (And.intro hb2 hb4))
          have hb5 : w.heap.size ≤ (wA.alloc (.cells (strC q).toArray 9)).heap.size := by have := HI.out.on.size; have := HOA.out.size; simp only [World.size_alloc]; omega
          have HB5 := Lib.hid hb5
          have hkb : k + 1 ≤ 1000000 := by have := HC16.out; have := HLT.out; omega
          clear hb1 hb2 hb4 hb5
          go_wp2_with (at_builtin; refine wpList_append_rows rfl (.tmp 25) (.tmp 27) 50 rfl w.heap.size 9 i1 (.string ⟨#[]⟩) 1 16 Tryz.underlying50 hi1 hz1 hsz1 hby1 rfl (by decide) _ k _ rfl HOW.out _ 1 (strC q) rfl HRW.out HBS.out.2.2 HBS.out.1 HBS.out.2.1 HB5.out ?_; intro v4 w4 hown4 hgr4 hor4; have HN := Lib.hid (LsI.next mvkStr (by decide) HGW.out HI.out HLT.out HQ.out HRL.out HEL.out HRA.out HOA.out (alloc1 _ _) hown4 hgr4 hor4); clear hown4 hgr4 hor4)
          go_roundw
          case rel => exact ⟨k + 1, _, _, by have := HLT.out; omega, by go_num, HN.out⟩
          case measure => simp [intOf]; have := HLT.out; omega
      · obtain rfl : k = c := by omega
        have hltI : ¬ (k : Int) < (k : Int) := by omega
        go_wp2_with fail
        refine (Err_any g rk 0 wr HI.out.rd).mono ?_
        rintro _ w' ⟨rfl, rfl⟩
        go_wp2
        exact bodyPost_ret (v := .tuple #[_, .int .i64 0]) (by simp [results, Tryz.results141, go_sem]) rfl HI.out.end
  · have hc0 : c = 0 := hno he
    subst hc0
    have hL : getS G (0, r1, e1) = .error e1 := if_neg he
    rw [hL]
    clear hL hyes hno hst hl1 hlen hG hne hbd hr hm
    have hsf := fun (w : World) (a : Addr) (m : Mode) (b : Nat) => run_store Tryz.prog w a (.float .f64 b) m rfl
    go_enter Tryz.func141, Tryz.ntmps141
    go_wp2_with fail
    refine HCN.out.mono ?_
    rintro _ w1 ⟨rfl, hrd, hon⟩
    have HRD := Lib.hid hrd
    have HON := Lib.hid hon
    clear hrd hon HCN
    go_wp2
    go_loopw [8, 14] (fun row i wr => row = .slice none 0 0 ∧ i = .int .i64 0 ∧ wr = w1) (fun _ i _ => (intOf i).toNat)
    case atStart => exact ⟨rfl, rfl, rfl⟩
    case round =>
      obtain ⟨rfl, rfl, rfl⟩ := hrel
      have hltI : ¬ (0 : Int) < ((0 : Nat) : Int) := by omega
      go_wp2_with fail
      refine (Err_any g r1 e1 wr HRD.out).mono ?_
      rintro _ w' ⟨rfl, rfl⟩
      go_wp2
      exact bodyPost_ret (v := .tuple #[.slice none 0 0, .int .i64 e1]) (by simp [results, Tryz.results141, go_sem]) rfl ⟨rfl, ⟨_, _, HRD.out⟩, HON.out⟩
def BadInt (u : Value) : Prop := ∃ n, u = .int .i64 n
theorem infoInt : (Tryz.prog.info? 3).map (fun i => (i.zero, i.size, i.bytes)) = some (some (.int .i64 0), 1, 8) := by kernel_rfl
theorem mvkInt (S T : Nat → Prop) (w w' : World) (q : Int) (h : Kept S T w w') (hz : w.heap.size ≤ w'.heap.size) (hq : okNone S w q) : okNone T w' q := trivial
set_option maxHeartbeats 4000000 in
theorem getL_Int (g most : Nat) (G : List UInt8 → Except Int (Int × List UInt8)) (rest : List UInt8) (e0 : Int) (w : World) (hr : RdR w g rest e0) (hlen : rest.length ≤ 1000000000000) (hm : most ≤ 16)
    (hG : ∀ r W, RdR W g r 0 → r.length ≤ 1000000000000 → Calls Tryz.prog 145 #[.pointer (some ⟨g, 0, none⟩)] W (ElP BadInt g (Value.int .i64) id okNone (G r) W))
    (hne : ∀ r er, G r = .error er → er ≠ 0) (hbd : ∀ r x r', G r = .ok (x, r') → r'.length ≤ r.length) :
    Calls Tryz.prog 144 #[.pointer (some ⟨g, 0, none⟩), .int .i64 most, .func (Fn.func 145) #[] #[]] w (LsP g 3 1 intC id okNone (getS G (stepF 4 (alCount (most : Int)) rest e0)) w) := by
  have hcnt := Count_any g rest e0 (most : Int) (by omega) (by omega) w hr
  have hl1 := stepF_len 4 (alCount (most : Int)) rest e0
  have hcl := step4_le (alCount (most : Int)) rest e0
  rcases hst : stepF 4 (alCount (most : Int)) rest e0 with ⟨c, r1, e1⟩
  have hno : e1 ≠ 0 → c = 0 := fun he => step4_no _ _ _ _ _ _ he hst
  have hyes : e1 = 0 → c ≤ 16 := fun he => step4_le16 most rest r1 e0 c hm (by rw [← he]; exact hst)
  rw [hst] at hcnt hl1 hcl
  dsimp only at hcnt hl1 hcl
  rw [wrap64_of (c : Int) ⟨by omega, by omega⟩] at hcnt
  have HCN := Lib.hid hcnt
  clear hcl
  have HGW := Lib.hid hr.lt
  clear hcnt
  by_cases he : e1 = 0
  · subst he
    have hc16 : c ≤ 16 := hyes rfl
    have hL : getS G (c, r1, 0) = getN G c r1 := if_pos rfl
    rw [hL]
    clear hL hyes hno hst
    generalize hL : getN G c r1 = L
    have HL := Lib.hid hL
    have HLEN := Lib.hid (show r1.length ≤ 1000000000000 from Nat.le_trans hl1 hlen)
    have HG := Lib.hid hG
    have HNE := Lib.hid hne
    have HBD := Lib.hid hbd
    have HC16 := Lib.hid hc16
    clear hL hl1 hlen hG hne hbd hr hm hc16
    obtain ⟨i1, hi1, hz1, hsz1, hby1⟩ := infoZ infoInt
    have hsf := fun (w : World) (a : Addr) (m : Mode) (b : Nat) => run_store Tryz.prog w a (.float .f64 b) m rfl
    go_enter Tryz.func144, Tryz.ntmps144
    go_wp2_with fail
    refine HCN.out.mono ?_
    rintro _ w1 ⟨rfl, hrd, hon⟩
    have HRD := Lib.hid hrd
    have HON := Lib.hid hon
    clear hrd hon HCN
    go_wp2
    go_loopw [8, 14] (fun row i wr => ∃ (k : Nat) (qs : List Int) (rk : List UInt8), k ≤ c ∧ i = .int .i64 k ∧ LsI G w g 3 1 intC id okNone c L wr k qs rk row) (fun _ i _ => c - (intOf i).toNat)
    case atStart => exact ⟨0, [], r1, Nat.zero_le _, rfl, ⟨rfl, (by rw [List.map_nil, preN_nil, Nat.sub_zero]; exact HL.out), HLEN.out, HRD.out, World.ownsRow_nil _ _ _ _, (fun q hq => by cases hq), HON.out⟩⟩
    case round =>
      obtain ⟨k, qs, rk, hk, rfl, hi⟩ := hrel
      have HI := Lib.hid hi
      clear hi HRD HON
      by_cases hlt : k < c
      · have hltI : (k : Int) < (c : Int) := by omega
        have hcall := HG.out rk wr HI.out.rd HI.out.len
        rcases hx : G rk with er | ⟨x, r'⟩
        · rw [hx] at hcall
          have hL : L = .error er := by rw [← HI.out.pre, show c - k = c - (k + 1) + 1 by omega]; exact preN_no _ hx
          have herb : (er != 0) = true := by simpa using HNE.out rk er hx
          subst hL
          have HC := Lib.hid (show Calls _ _ _ _ (fun e w' => ∃ u, BadInt u ∧ e = .returned (.tuple #[u, .int .i64 er]) ∧ (∃ r' e', RdR w' g r' e') ∧ Only g wr w') from hcall)
          clear hcall hx hlt
          go_wp2_with fail
          refine HC.out.mono ?_
          rintro _ wA ⟨u, hu, rfl, hrA, hoA⟩
          obtain ⟨n0, rfl⟩ := hu
          have HRA := Lib.hid hrA
          have HOA := Lib.hid (HI.out.on.trans hoA)
          clear hrA hoA HC
          go_wp2
          exact bodyPost_ret (v := .tuple #[.slice none 0 0, .int .i64 er]) (by simp [results, Tryz.results144, go_sem]) rfl ⟨rfl, HRA.out, HOA.out⟩
        · rw [hx] at hcall
          have HC := Lib.hid (show Calls _ _ _ _ (fun e w' => ∃ q : Int, id q = x ∧ e = .returned (.tuple #[.int .i64 q, .int .i64 0]) ∧ okNone (fun b => wr.heap.size ≤ b) w' q ∧ RdR w' g r' 0 ∧ Only g wr w') from hcall)
          have HX := Lib.hid hx
          have HLT := Lib.hid hlt
          have HLI := Lib.hid hltI
          have HRL := Lib.hid (HBD.out _ _ _ hx)
          clear hcall hx
          go_wp2_with fail
          refine HC.out.mono ?_
          rintro _ wA ⟨q, hq, rfl, hel, hrdA, hoA⟩
          have HQ := Lib.hid (show G rk = .ok (id q, r') by rw [hq]; exact HX.out)
          have HEL := Lib.hid hel
          have HRA := Lib.hid hrdA
          have HOA := Lib.hid hoA
          have h00 : ((0 : Int) != 0) = false := rfl
          have hownA := own_only HI.out.own hoA HGW.out
          have HOW := Lib.hid (hownA.alloc (.cells (intC q).toArray 3))
          have hrw := rows_one wA (intC q) 3 1 rfl
          have HRW := Lib.hid hrw
          clear hrw hq hel hrdA hoA hownA hlt HC HX
          have hb1 : k + 1 ≤ maxLen := by have := HC16.out; have := HLT.out; unfold maxLen; omega
          have hb2 : (k + 1) * 8 ≤ 140737488355328 := by have := HC16.out; have := HLT.out; omega
          have hb4 : ∀ u ∈ intC q, u.oneCell' = true := by
            intro u hu
            simp only [intC, List.mem_cons, List.not_mem_nil, or_false] at hu
            subst hu; rfl
          have HBS := Lib.hid (And.intro hb1 (And.intro hb2 hb4))
          have hb5 : w.heap.size ≤ (wA.alloc (.cells (intC q).toArray 3)).heap.size := by have := HI.out.on.size; have := HOA.out.size; simp only [World.size_alloc]; omega
          have HB5 := Lib.hid hb5
          have hkb : k + 1 ≤ 1000000 := by have := HC16.out; have := HLT.out; omega
          clear hb1 hb2 hb4 hb5
          go_wp2_with (at_builtin; refine wpList_append_rows rfl (.tmp 25) (.tmp 27) 67 rfl w.heap.size 3 i1 (.int .i64 0) 1 8 Tryz.underlying67 hi1 hz1 hsz1 hby1 rfl (by decide) _ k _ rfl HOW.out _ 1 (intC q) rfl HRW.out HBS.out.2.2 HBS.out.1 HBS.out.2.1 HB5.out ?_; intro v4 w4 hown4 hgr4 hor4; have HN := Lib.hid (LsI.next mvkInt (by decide) HGW.out HI.out HLT.out HQ.out HRL.out HEL.out HRA.out HOA.out (alloc1 _ _) hown4 hgr4 hor4); clear hown4 hgr4 hor4)
          go_roundw
          case rel => exact ⟨k + 1, _, _, by have := HLT.out; omega, by go_num, HN.out⟩
          case measure => simp [intOf]; have := HLT.out; omega
      · obtain rfl : k = c := by omega
        have hltI : ¬ (k : Int) < (k : Int) := by omega
        go_wp2_with fail
        refine (Err_any g rk 0 wr HI.out.rd).mono ?_
        rintro _ w' ⟨rfl, rfl⟩
        go_wp2
        exact bodyPost_ret (v := .tuple #[_, .int .i64 0]) (by simp [results, Tryz.results144, go_sem]) rfl HI.out.end
  · have hc0 : c = 0 := hno he
    subst hc0
    have hL : getS G (0, r1, e1) = .error e1 := if_neg he
    rw [hL]
    clear hL hyes hno hst hl1 hlen hG hne hbd hr hm
    have hsf := fun (w : World) (a : Addr) (m : Mode) (b : Nat) => run_store Tryz.prog w a (.float .f64 b) m rfl
    go_enter Tryz.func144, Tryz.ntmps144
    go_wp2_with fail
    refine HCN.out.mono ?_
    rintro _ w1 ⟨rfl, hrd, hon⟩
    have HRD := Lib.hid hrd
    have HON := Lib.hid hon
    clear hrd hon HCN
    go_wp2
    go_loopw [8, 14] (fun row i wr => row = .slice none 0 0 ∧ i = .int .i64 0 ∧ wr = w1) (fun _ i _ => (intOf i).toNat)
    case atStart => exact ⟨rfl, rfl, rfl⟩
    case round =>
      obtain ⟨rfl, rfl, rfl⟩ := hrel
      have hltI : ¬ (0 : Int) < ((0 : Nat) : Int) := by omega
      go_wp2_with fail
      refine (Err_any g r1 e1 wr HRD.out).mono ?_
      rintro _ w' ⟨rfl, rfl⟩
      go_wp2
      exact bodyPost_ret (v := .tuple #[.slice none 0 0, .int .i64 e1]) (by simp [results, Tryz.results144, go_sem]) rfl ⟨rfl, ⟨_, _, HRD.out⟩, HON.out⟩
def BadFld (u : Value) : Prop := ∃ nm k A n c, ∃ y : Vl, u = .agg #[.string nm, .int .i64 k, .slice A n c, .int .i64 y.k, .int .i64 y.i, .bool y.b, .string y.s, .float .f64 y.n]
theorem infoFld : (Tryz.prog.info? 55).map (fun i => (i.zero, i.size, i.bytes)) = some (some (.agg #[.string ⟨#[]⟩, .int .i64 0, .slice none 0 0, .int .i64 0, .int .i64 0, .bool false, .string ⟨#[]⟩, .float .f64 0]), 8, 96) := by kernel_rfl
theorem mvkFld (S T : Nat → Prop) (w w' : World) (q : FldX) (h : Kept S T w w') (hz : w.heap.size ≤ w'.heap.size) (hq : (fun S w q => FldX.ok S w q) S w q) : (fun S w q => FldX.ok S w q) T w' q := TxN.move h hz hq
set_option maxHeartbeats 4000000 in
theorem getL_Fld (g most : Nat) (G : List UInt8 → Except Int (Fld × List UInt8)) (rest : List UInt8) (e0 : Int) (w : World) (hr : RdR w g rest e0) (hlen : rest.length ≤ 1000000000000) (hm : most ≤ 16)
    (hG : ∀ r W, RdR W g r 0 → r.length ≤ 1000000000000 → Calls Tryz.prog 102 #[.pointer (some ⟨g, 0, none⟩)] W (ElP BadFld g (fun q => .agg (FldX.cells q).toArray) FldX.f (fun S w q => FldX.ok S w q) (G r) W))
    (hne : ∀ r er, G r = .error er → er ≠ 0) (hbd : ∀ r x r', G r = .ok (x, r') → r'.length ≤ r.length) :
    Calls Tryz.prog 101 #[.pointer (some ⟨g, 0, none⟩), .int .i64 most, .func (Fn.func 102) #[] #[]] w (LsP g 55 8 FldX.cells FldX.f (fun S w q => FldX.ok S w q) (getS G (stepF 4 (alCount (most : Int)) rest e0)) w) := by
  have hcnt := Count_any g rest e0 (most : Int) (by omega) (by omega) w hr
  have hl1 := stepF_len 4 (alCount (most : Int)) rest e0
  have hcl := step4_le (alCount (most : Int)) rest e0
  rcases hst : stepF 4 (alCount (most : Int)) rest e0 with ⟨c, r1, e1⟩
  have hno : e1 ≠ 0 → c = 0 := fun he => step4_no _ _ _ _ _ _ he hst
  have hyes : e1 = 0 → c ≤ 16 := fun he => step4_le16 most rest r1 e0 c hm (by rw [← he]; exact hst)
  rw [hst] at hcnt hl1 hcl
  dsimp only at hcnt hl1 hcl
  rw [wrap64_of (c : Int) ⟨by omega, by omega⟩] at hcnt
  have HCN := Lib.hid hcnt
  clear hcl
  have HGW := Lib.hid hr.lt
  clear hcnt
  by_cases he : e1 = 0
  · subst he
    have hc16 : c ≤ 16 := hyes rfl
    have hL : getS G (c, r1, 0) = getN G c r1 := if_pos rfl
    rw [hL]
    clear hL hyes hno hst
    generalize hL : getN G c r1 = L
    have HL := Lib.hid hL
    have HLEN := Lib.hid (show r1.length ≤ 1000000000000 from Nat.le_trans hl1 hlen)
    have HG := Lib.hid hG
    have HNE := Lib.hid hne
    have HBD := Lib.hid hbd
    have HC16 := Lib.hid hc16
    clear hL hl1 hlen hG hne hbd hr hm hc16
    obtain ⟨i1, hi1, hz1, hsz1, hby1⟩ := infoZ infoFld
    have hsf := fun (w : World) (a : Addr) (m : Mode) (b : Nat) => run_store Tryz.prog w a (.float .f64 b) m rfl
    go_enter Tryz.func101, Tryz.ntmps101
    go_wp2_with fail
    refine HCN.out.mono ?_
    rintro _ w1 ⟨rfl, hrd, hon⟩
    have HRD := Lib.hid hrd
    have HON := Lib.hid hon
    clear hrd hon HCN
    go_wp2
    go_loopw [8, 14] (fun row i wr => ∃ (k : Nat) (qs : List FldX) (rk : List UInt8), k ≤ c ∧ i = .int .i64 k ∧ LsI G w g 55 8 FldX.cells FldX.f (fun S w q => FldX.ok S w q) c L wr k qs rk row) (fun _ i _ => c - (intOf i).toNat)
    case atStart => exact ⟨0, [], r1, Nat.zero_le _, rfl, ⟨rfl, (by rw [List.map_nil, preN_nil, Nat.sub_zero]; exact HL.out), HLEN.out, HRD.out, World.ownsRow_nil _ _ _ _, (fun q hq => by cases hq), HON.out⟩⟩
    case round =>
      obtain ⟨k, qs, rk, hk, rfl, hi⟩ := hrel
      have HI := Lib.hid hi
      clear hi HRD HON
      by_cases hlt : k < c
      · have hltI : (k : Int) < (c : Int) := by omega
        have hcall := HG.out rk wr HI.out.rd HI.out.len
        rcases hx : G rk with er | ⟨x, r'⟩
        · rw [hx] at hcall
          have hL : L = .error er := by rw [← HI.out.pre, show c - k = c - (k + 1) + 1 by omega]; exact preN_no _ hx
          have herb : (er != 0) = true := by simpa using HNE.out rk er hx
          subst hL
          have HC := Lib.hid (show Calls _ _ _ _ (fun e w' => ∃ u, BadFld u ∧ e = .returned (.tuple #[u, .int .i64 er]) ∧ (∃ r' e', RdR w' g r' e') ∧ Only g wr w') from hcall)
          clear hcall hx hlt
          go_wp2_with fail
          refine HC.out.mono ?_
          rintro _ wA ⟨u, hu, rfl, hrA, hoA⟩
          obtain ⟨nm0, k0, A0, n0, c0, y0, rfl⟩ := hu
          have HRA := Lib.hid hrA
          have HOA := Lib.hid (HI.out.on.trans hoA)
          clear hrA hoA HC
          go_wp2
          exact bodyPost_ret (v := .tuple #[.slice none 0 0, .int .i64 er]) (by simp [results, Tryz.results101, go_sem]) rfl ⟨rfl, ⟨_, _, HRA.out.choose_spec.choose_spec.below (alloc1 _ _)⟩, Only.below HOA.out (alloc1 _ _)⟩
        · rw [hx] at hcall
          have HC := Lib.hid (show Calls _ _ _ _ (fun e w' => ∃ q : FldX, FldX.f q = x ∧ e = .returned (.tuple #[.agg #[.string q.f.f.name, .int .i64 q.f.f.kind, .slice q.A q.f.en.length q.c, .int .i64 q.f.y.k, .int .i64 q.f.y.i, .bool q.f.y.b, .string q.f.y.s, .float .f64 q.f.y.n], .int .i64 0]) ∧ (fun S w q => FldX.ok S w q) (fun b => wr.heap.size ≤ b) w' q ∧ RdR w' g r' 0 ∧ Only g wr w') from hcall)
          have HX := Lib.hid hx
          have HLT := Lib.hid hlt
          have HLI := Lib.hid hltI
          have HRL := Lib.hid (HBD.out _ _ _ hx)
          clear hcall hx
          go_wp2_with fail
          refine HC.out.mono ?_
          rintro _ wA ⟨q, hq, rfl, hel, hrdA, hoA⟩
          have HQ := Lib.hid (show G rk = .ok (FldX.f q, r') by rw [hq]; exact HX.out)
          have HEL := Lib.hid hel
          have HRA := Lib.hid hrdA
          have HOA := Lib.hid hoA
          have h00 : ((0 : Int) != 0) = false := rfl
          have hownA := own_only HI.out.own hoA HGW.out
          have HOW := Lib.hid ((hownA.alloc (.cells (FldX.cells q).toArray 55)).alloc (.cells (FldX.cells q).toArray 55))
          have hrw := rows_one (wA.alloc (.cells (FldX.cells q).toArray 55)) (FldX.cells q) 55 8 rfl
          rw [World.size_alloc] at hrw
          have HRW := Lib.hid hrw
          clear hrw hq hel hrdA hoA hownA hlt HC HX
          have hb1 : k + 1 ≤ maxLen := by have := HC16.out; have := HLT.out; unfold maxLen; omega
          have hb2 : (k + 1) * 96 ≤ 140737488355328 := by have := HC16.out; have := HLT.out; omega
          have hb4 : ∀ u ∈ FldX.cells q, u.oneCell' = true := by
            intro u hu
            simp only [FldX.cells, List.mem_cons, List.not_mem_nil, or_false] at hu
            rcases hu with rfl | rfl | rfl | rfl | rfl | rfl | rfl | rfl <;> rfl
          have HBS := Lib.hid (And.intro hb1 (And.intro hb2 hb4))
          have hb5 : w.heap.size ≤ ((wA.alloc (.cells (FldX.cells q).toArray 55)).alloc (.cells (FldX.cells q).toArray 55)).heap.size := by have := HI.out.on.size; have := HOA.out.size; simp only [World.size_alloc]; omega
          have HB5 := Lib.hid hb5
          have hkb : k + 1 ≤ 1000000 := by have := HC16.out; have := HLT.out; omega
          clear hb1 hb2 hb4 hb5
          go_wp2_with (at_builtin; refine wpList_append_rows rfl (.tmp 25) (.tmp 27) 22 rfl w.heap.size 55 i1 (.agg #[.string ⟨#[]⟩, .int .i64 0, .slice none 0 0, .int .i64 0, .int .i64 0, .bool false, .string ⟨#[]⟩, .float .f64 0]) 8 96 Tryz.underlying22 hi1 hz1 hsz1 hby1 rfl (by decide) _ k _ rfl HOW.out _ 1 (FldX.cells q) rfl HRW.out HBS.out.2.2 HBS.out.1 HBS.out.2.1 HB5.out ?_; intro v4 w4 hown4 hgr4 hor4; have HN := Lib.hid (LsI.next mvkFld (by decide) HGW.out HI.out HLT.out HQ.out HRL.out HEL.out HRA.out HOA.out ((alloc1 _ _).trans ((alloc1 _ _).mono (by simp))) hown4 hgr4 hor4); clear hown4 hgr4 hor4)
          go_roundw
          case rel => exact ⟨k + 1, _, _, by have := HLT.out; omega, by go_num, HN.out⟩
          case measure => simp [intOf]; have := HLT.out; omega
      · obtain rfl : k = c := by omega
        have hltI : ¬ (k : Int) < (k : Int) := by omega
        go_wp2_with fail
        refine (Err_any g rk 0 wr HI.out.rd).mono ?_
        rintro _ w' ⟨rfl, rfl⟩
        go_wp2
        exact bodyPost_ret (v := .tuple #[_, .int .i64 0]) (by simp [results, Tryz.results101, go_sem]) rfl HI.out.end
  · have hc0 : c = 0 := hno he
    subst hc0
    have hL : getS G (0, r1, e1) = .error e1 := if_neg he
    rw [hL]
    clear hL hyes hno hst hl1 hlen hG hne hbd hr hm
    have hsf := fun (w : World) (a : Addr) (m : Mode) (b : Nat) => run_store Tryz.prog w a (.float .f64 b) m rfl
    go_enter Tryz.func101, Tryz.ntmps101
    go_wp2_with fail
    refine HCN.out.mono ?_
    rintro _ w1 ⟨rfl, hrd, hon⟩
    have HRD := Lib.hid hrd
    have HON := Lib.hid hon
    clear hrd hon HCN
    go_wp2
    go_loopw [8, 14] (fun row i wr => row = .slice none 0 0 ∧ i = .int .i64 0 ∧ wr = w1) (fun _ i _ => (intOf i).toNat)
    case atStart => exact ⟨rfl, rfl, rfl⟩
    case round =>
      obtain ⟨rfl, rfl, rfl⟩ := hrel
      have hltI : ¬ (0 : Int) < ((0 : Nat) : Int) := by omega
      go_wp2_with fail
      refine (Err_any g r1 e1 wr HRD.out).mono ?_
      rintro _ w' ⟨rfl, rfl⟩
      go_wp2
      exact bodyPost_ret (v := .tuple #[.slice none 0 0, .int .i64 e1]) (by simp [results, Tryz.results101, go_sem]) rfl ⟨rfl, ⟨_, _, HRD.out⟩, HON.out⟩
def BadStg (u : Value) : Prop := ∃ nm k A n c, u = .agg #[.string nm, .int .i64 k, .slice A n c]
theorem infoStg : (Tryz.prog.info? 69).map (fun i => (i.zero, i.size, i.bytes)) = some (some (.agg #[.string ⟨#[]⟩, .int .i64 0, .slice none 0 0]), 3, 48) := by kernel_rfl
theorem mvkStg (S T : Nat → Prop) (w w' : World) (q : StgX) (h : Kept S T w w') (hz : w.heap.size ≤ w'.heap.size) (hq : (fun S w q => StgX.ok S w q) S w q) : (fun S w q => StgX.ok S w q) T w' q := IsN.move h hz hq
set_option maxHeartbeats 4000000 in
theorem getL_Stg (g most : Nat) (G : List UInt8 → Except Int (Stg × List UInt8)) (rest : List UInt8) (e0 : Int) (w : World) (hr : RdR w g rest e0) (hlen : rest.length ≤ 1000000000000) (hm : most ≤ 16)
    (hG : ∀ r W, RdR W g r 0 → r.length ≤ 1000000000000 → Calls Tryz.prog 104 #[.pointer (some ⟨g, 0, none⟩)] W (ElP BadStg g (fun q => .agg (StgX.cells q).toArray) StgX.s (fun S w q => StgX.ok S w q) (G r) W))
    (hne : ∀ r er, G r = .error er → er ≠ 0) (hbd : ∀ r x r', G r = .ok (x, r') → r'.length ≤ r.length) :
    Calls Tryz.prog 103 #[.pointer (some ⟨g, 0, none⟩), .int .i64 most, .func (Fn.func 104) #[] #[]] w (LsP g 69 3 StgX.cells StgX.s (fun S w q => StgX.ok S w q) (getS G (stepF 4 (alCount (most : Int)) rest e0)) w) := by
  have hcnt := Count_any g rest e0 (most : Int) (by omega) (by omega) w hr
  have hl1 := stepF_len 4 (alCount (most : Int)) rest e0
  have hcl := step4_le (alCount (most : Int)) rest e0
  rcases hst : stepF 4 (alCount (most : Int)) rest e0 with ⟨c, r1, e1⟩
  have hno : e1 ≠ 0 → c = 0 := fun he => step4_no _ _ _ _ _ _ he hst
  have hyes : e1 = 0 → c ≤ 16 := fun he => step4_le16 most rest r1 e0 c hm (by rw [← he]; exact hst)
  rw [hst] at hcnt hl1 hcl
  dsimp only at hcnt hl1 hcl
  rw [wrap64_of (c : Int) ⟨by omega, by omega⟩] at hcnt
  have HCN := Lib.hid hcnt
  clear hcl
  have HGW := Lib.hid hr.lt
  clear hcnt
  by_cases he : e1 = 0
  · subst he
    have hc16 : c ≤ 16 := hyes rfl
    have hL : getS G (c, r1, 0) = getN G c r1 := if_pos rfl
    rw [hL]
    clear hL hyes hno hst
    generalize hL : getN G c r1 = L
    have HL := Lib.hid hL
    have HLEN := Lib.hid (show r1.length ≤ 1000000000000 from Nat.le_trans hl1 hlen)
    have HG := Lib.hid hG
    have HNE := Lib.hid hne
    have HBD := Lib.hid hbd
    have HC16 := Lib.hid hc16
    clear hL hl1 hlen hG hne hbd hr hm hc16
    obtain ⟨i1, hi1, hz1, hsz1, hby1⟩ := infoZ infoStg
    have hsf := fun (w : World) (a : Addr) (m : Mode) (b : Nat) => run_store Tryz.prog w a (.float .f64 b) m rfl
    go_enter Tryz.func103, Tryz.ntmps103
    go_wp2_with fail
    refine HCN.out.mono ?_
    rintro _ w1 ⟨rfl, hrd, hon⟩
    have HRD := Lib.hid hrd
    have HON := Lib.hid hon
    clear hrd hon HCN
    go_wp2
    go_loopw [8, 14] (fun row i wr => ∃ (k : Nat) (qs : List StgX) (rk : List UInt8), k ≤ c ∧ i = .int .i64 k ∧ LsI G w g 69 3 StgX.cells StgX.s (fun S w q => StgX.ok S w q) c L wr k qs rk row) (fun _ i _ => c - (intOf i).toNat)
    case atStart => exact ⟨0, [], r1, Nat.zero_le _, rfl, ⟨rfl, (by rw [List.map_nil, preN_nil, Nat.sub_zero]; exact HL.out), HLEN.out, HRD.out, World.ownsRow_nil _ _ _ _, (fun q hq => by cases hq), HON.out⟩⟩
    case round =>
      obtain ⟨k, qs, rk, hk, rfl, hi⟩ := hrel
      have HI := Lib.hid hi
      clear hi HRD HON
      by_cases hlt : k < c
      · have hltI : (k : Int) < (c : Int) := by omega
        have hcall := HG.out rk wr HI.out.rd HI.out.len
        rcases hx : G rk with er | ⟨x, r'⟩
        · rw [hx] at hcall
          have hL : L = .error er := by rw [← HI.out.pre, show c - k = c - (k + 1) + 1 by omega]; exact preN_no _ hx
          have herb : (er != 0) = true := by simpa using HNE.out rk er hx
          subst hL
          have HC := Lib.hid (show Calls _ _ _ _ (fun e w' => ∃ u, BadStg u ∧ e = .returned (.tuple #[u, .int .i64 er]) ∧ (∃ r' e', RdR w' g r' e') ∧ Only g wr w') from hcall)
          clear hcall hx hlt
          go_wp2_with fail
          refine HC.out.mono ?_
          rintro _ wA ⟨u, hu, rfl, hrA, hoA⟩
          obtain ⟨nm0, k0, A0, n0, c0, rfl⟩ := hu
          have HRA := Lib.hid hrA
          have HOA := Lib.hid (HI.out.on.trans hoA)
          clear hrA hoA HC
          go_wp2
          exact bodyPost_ret (v := .tuple #[.slice none 0 0, .int .i64 er]) (by simp [results, Tryz.results103, go_sem]) rfl ⟨rfl, ⟨_, _, HRA.out.choose_spec.choose_spec.below (alloc1 _ _)⟩, Only.below HOA.out (alloc1 _ _)⟩
        · rw [hx] at hcall
          have HC := Lib.hid (show Calls _ _ _ _ (fun e w' => ∃ q : StgX, StgX.s q = x ∧ e = .returned (.tuple #[.agg #[.string q.s.name, .int .i64 q.s.need, .slice q.A q.s.orgs.length q.c], .int .i64 0]) ∧ (fun S w q => StgX.ok S w q) (fun b => wr.heap.size ≤ b) w' q ∧ RdR w' g r' 0 ∧ Only g wr w') from hcall)
          have HX := Lib.hid hx
          have HLT := Lib.hid hlt
          have HLI := Lib.hid hltI
          have HRL := Lib.hid (HBD.out _ _ _ hx)
          clear hcall hx
          go_wp2_with fail
          refine HC.out.mono ?_
          rintro _ wA ⟨q, hq, rfl, hel, hrdA, hoA⟩
          have HQ := Lib.hid (show G rk = .ok (StgX.s q, r') by rw [hq]; exact HX.out)
          have HEL := Lib.hid hel
          have HRA := Lib.hid hrdA
          have HOA := Lib.hid hoA
          have h00 : ((0 : Int) != 0) = false := rfl
          have hownA := own_only HI.out.own hoA HGW.out
          have HOW := Lib.hid ((hownA.alloc (.cells (StgX.cells q).toArray 69)).alloc (.cells (StgX.cells q).toArray 69))
          have hrw := rows_one (wA.alloc (.cells (StgX.cells q).toArray 69)) (StgX.cells q) 69 3 rfl
          rw [World.size_alloc] at hrw
          have HRW := Lib.hid hrw
          clear hrw hq hel hrdA hoA hownA hlt HC HX
          have hb1 : k + 1 ≤ maxLen := by have := HC16.out; have := HLT.out; unfold maxLen; omega
          have hb2 : (k + 1) * 48 ≤ 140737488355328 := by have := HC16.out; have := HLT.out; omega
          have hb4 : ∀ u ∈ StgX.cells q, u.oneCell' = true := by
            intro u hu
            simp only [StgX.cells, List.mem_cons, List.not_mem_nil, or_false] at hu
            rcases hu with rfl | rfl | rfl <;> rfl
          have HBS := Lib.hid (And.intro hb1 (And.intro hb2 hb4))
          have hb5 : w.heap.size ≤ ((wA.alloc (.cells (StgX.cells q).toArray 69)).alloc (.cells (StgX.cells q).toArray 69)).heap.size := by have := HI.out.on.size; have := HOA.out.size; simp only [World.size_alloc]; omega
          have HB5 := Lib.hid hb5
          have hkb : k + 1 ≤ 1000000 := by have := HC16.out; have := HLT.out; omega
          clear hb1 hb2 hb4 hb5
          go_wp2_with (at_builtin; refine wpList_append_rows rfl (.tmp 25) (.tmp 27) 23 rfl w.heap.size 69 i1 (.agg #[.string ⟨#[]⟩, .int .i64 0, .slice none 0 0]) 3 48 Tryz.underlying23 hi1 hz1 hsz1 hby1 rfl (by decide) _ k _ rfl HOW.out _ 1 (StgX.cells q) rfl HRW.out HBS.out.2.2 HBS.out.1 HBS.out.2.1 HB5.out ?_; intro v4 w4 hown4 hgr4 hor4; have HN := Lib.hid (LsI.next mvkStg (by decide) HGW.out HI.out HLT.out HQ.out HRL.out HEL.out HRA.out HOA.out ((alloc1 _ _).trans ((alloc1 _ _).mono (by simp))) hown4 hgr4 hor4); clear hown4 hgr4 hor4)
          go_roundw
          case rel => exact ⟨k + 1, _, _, by have := HLT.out; omega, by go_num, HN.out⟩
          case measure => simp [intOf]; have := HLT.out; omega
      · obtain rfl : k = c := by omega
        have hltI : ¬ (k : Int) < (k : Int) := by omega
        go_wp2_with fail
        refine (Err_any g rk 0 wr HI.out.rd).mono ?_
        rintro _ w' ⟨rfl, rfl⟩
        go_wp2
        exact bodyPost_ret (v := .tuple #[_, .int .i64 0]) (by simp [results, Tryz.results103, go_sem]) rfl HI.out.end
  · have hc0 : c = 0 := hno he
    subst hc0
    have hL : getS G (0, r1, e1) = .error e1 := if_neg he
    rw [hL]
    clear hL hyes hno hst hl1 hlen hG hne hbd hr hm
    have hsf := fun (w : World) (a : Addr) (m : Mode) (b : Nat) => run_store Tryz.prog w a (.float .f64 b) m rfl
    go_enter Tryz.func103, Tryz.ntmps103
    go_wp2_with fail
    refine HCN.out.mono ?_
    rintro _ w1 ⟨rfl, hrd, hon⟩
    have HRD := Lib.hid hrd
    have HON := Lib.hid hon
    clear hrd hon HCN
    go_wp2
    go_loopw [8, 14] (fun row i wr => row = .slice none 0 0 ∧ i = .int .i64 0 ∧ wr = w1) (fun _ i _ => (intOf i).toNat)
    case atStart => exact ⟨rfl, rfl, rfl⟩
    case round =>
      obtain ⟨rfl, rfl, rfl⟩ := hrel
      have hltI : ¬ (0 : Int) < ((0 : Nat) : Int) := by omega
      go_wp2_with fail
      refine (Err_any g r1 e1 wr HRD.out).mono ?_
      rintro _ w' ⟨rfl, rfl⟩
      go_wp2
      exact bodyPost_ret (v := .tuple #[.slice none 0 0, .int .i64 e1]) (by simp [results, Tryz.results103, go_sem]) rfl ⟨rfl, ⟨_, _, HRD.out⟩, HON.out⟩
def BadEff (u : Value) : Prop := ∃ fd op A n c nm, ∃ y : Vl, u = .agg #[.string fd, .int .i64 op, .slice A n c, .string nm, .int .i64 y.k, .int .i64 y.i, .bool y.b, .string y.s, .float .f64 y.n]
theorem infoEff : (Tryz.prog.info? 65).map (fun i => (i.zero, i.size, i.bytes)) = some (some (.agg #[.string ⟨#[]⟩, .int .i64 0, .slice none 0 0, .string ⟨#[]⟩, .int .i64 0, .int .i64 0, .bool false, .string ⟨#[]⟩, .float .f64 0]), 9, 112) := by kernel_rfl
theorem mvkEff (S T : Nat → Prop) (w w' : World) (q : EffX) (h : Kept S T w w') (hz : w.heap.size ≤ w'.heap.size) (hq : (fun S w q => EffX.ok S w q) S w q) : (fun S w q => EffX.ok S w q) T w' q := ExS.move h hz hq
set_option maxHeartbeats 4000000 in
theorem getL_Eff (g most : Nat) (G : List UInt8 → Except Int (Eff × List UInt8)) (rest : List UInt8) (e0 : Int) (w : World) (hr : RdR w g rest e0) (hlen : rest.length ≤ 1000000000000) (hm : most ≤ 16)
    (hG : ∀ r W, RdR W g r 0 → r.length ≤ 1000000000000 → Calls Tryz.prog 148 #[.pointer (some ⟨g, 0, none⟩)] W (ElP BadEff g (fun q => .agg (EffX.cells q).toArray) EffX.e (fun S w q => EffX.ok S w q) (G r) W))
    (hne : ∀ r er, G r = .error er → er ≠ 0) (hbd : ∀ r x r', G r = .ok (x, r') → r'.length ≤ r.length) :
    Calls Tryz.prog 147 #[.pointer (some ⟨g, 0, none⟩), .int .i64 most, .func (Fn.func 148) #[] #[]] w (LsP g 65 9 EffX.cells EffX.e (fun S w q => EffX.ok S w q) (getS G (stepF 4 (alCount (most : Int)) rest e0)) w) := by
  have hcnt := Count_any g rest e0 (most : Int) (by omega) (by omega) w hr
  have hl1 := stepF_len 4 (alCount (most : Int)) rest e0
  have hcl := step4_le (alCount (most : Int)) rest e0
  rcases hst : stepF 4 (alCount (most : Int)) rest e0 with ⟨c, r1, e1⟩
  have hno : e1 ≠ 0 → c = 0 := fun he => step4_no _ _ _ _ _ _ he hst
  have hyes : e1 = 0 → c ≤ 16 := fun he => step4_le16 most rest r1 e0 c hm (by rw [← he]; exact hst)
  rw [hst] at hcnt hl1 hcl
  dsimp only at hcnt hl1 hcl
  rw [wrap64_of (c : Int) ⟨by omega, by omega⟩] at hcnt
  have HCN := Lib.hid hcnt
  clear hcl
  have HGW := Lib.hid hr.lt
  clear hcnt
  by_cases he : e1 = 0
  · subst he
    have hc16 : c ≤ 16 := hyes rfl
    have hL : getS G (c, r1, 0) = getN G c r1 := if_pos rfl
    rw [hL]
    clear hL hyes hno hst
    generalize hL : getN G c r1 = L
    have HL := Lib.hid hL
    have HLEN := Lib.hid (show r1.length ≤ 1000000000000 from Nat.le_trans hl1 hlen)
    have HG := Lib.hid hG
    have HNE := Lib.hid hne
    have HBD := Lib.hid hbd
    have HC16 := Lib.hid hc16
    clear hL hl1 hlen hG hne hbd hr hm hc16
    obtain ⟨i1, hi1, hz1, hsz1, hby1⟩ := infoZ infoEff
    have hsf := fun (w : World) (a : Addr) (m : Mode) (b : Nat) => run_store Tryz.prog w a (.float .f64 b) m rfl
    go_enter Tryz.func147, Tryz.ntmps147
    go_wp2_with fail
    refine HCN.out.mono ?_
    rintro _ w1 ⟨rfl, hrd, hon⟩
    have HRD := Lib.hid hrd
    have HON := Lib.hid hon
    clear hrd hon HCN
    go_wp2
    go_loopw [8, 14] (fun row i wr => ∃ (k : Nat) (qs : List EffX) (rk : List UInt8), k ≤ c ∧ i = .int .i64 k ∧ LsI G w g 65 9 EffX.cells EffX.e (fun S w q => EffX.ok S w q) c L wr k qs rk row) (fun _ i _ => c - (intOf i).toNat)
    case atStart => exact ⟨0, [], r1, Nat.zero_le _, rfl, ⟨rfl, (by rw [List.map_nil, preN_nil, Nat.sub_zero]; exact HL.out), HLEN.out, HRD.out, World.ownsRow_nil _ _ _ _, (fun q hq => by cases hq), HON.out⟩⟩
    case round =>
      obtain ⟨k, qs, rk, hk, rfl, hi⟩ := hrel
      have HI := Lib.hid hi
      clear hi HRD HON
      by_cases hlt : k < c
      · have hltI : (k : Int) < (c : Int) := by omega
        have hcall := HG.out rk wr HI.out.rd HI.out.len
        rcases hx : G rk with er | ⟨x, r'⟩
        · rw [hx] at hcall
          have hL : L = .error er := by rw [← HI.out.pre, show c - k = c - (k + 1) + 1 by omega]; exact preN_no _ hx
          have herb : (er != 0) = true := by simpa using HNE.out rk er hx
          subst hL
          have HC := Lib.hid (show Calls _ _ _ _ (fun e w' => ∃ u, BadEff u ∧ e = .returned (.tuple #[u, .int .i64 er]) ∧ (∃ r' e', RdR w' g r' e') ∧ Only g wr w') from hcall)
          clear hcall hx hlt
          go_wp2_with fail
          refine HC.out.mono ?_
          rintro _ wA ⟨u, hu, rfl, hrA, hoA⟩
          obtain ⟨fd0, op0, A0, n0, c0, nm0, y0, rfl⟩ := hu
          have HRA := Lib.hid hrA
          have HOA := Lib.hid (HI.out.on.trans hoA)
          clear hrA hoA HC
          go_wp2
          exact bodyPost_ret (v := .tuple #[.slice none 0 0, .int .i64 er]) (by simp [results, Tryz.results147, go_sem]) rfl ⟨rfl, ⟨_, _, HRA.out.choose_spec.choose_spec.below (alloc1 _ _)⟩, Only.below HOA.out (alloc1 _ _)⟩
        · rw [hx] at hcall
          have HC := Lib.hid (show Calls _ _ _ _ (fun e w' => ∃ q : EffX, EffX.e q = x ∧ e = .returned (.tuple #[.agg #[.string q.e.field, .int .i64 q.e.e.op, .slice q.A q.e.e.kids.length q.c, .string q.e.e.name, .int .i64 q.e.e.val.k, .int .i64 q.e.e.val.i, .bool q.e.e.val.b, .string q.e.e.val.s, .float .f64 q.e.e.val.n], .int .i64 0]) ∧ (fun S w q => EffX.ok S w q) (fun b => wr.heap.size ≤ b) w' q ∧ RdR w' g r' 0 ∧ Only g wr w') from hcall)
          have HX := Lib.hid hx
          have HLT := Lib.hid hlt
          have HLI := Lib.hid hltI
          have HRL := Lib.hid (HBD.out _ _ _ hx)
          clear hcall hx
          go_wp2_with fail
          refine HC.out.mono ?_
          rintro _ wA ⟨q, hq, rfl, hel, hrdA, hoA⟩
          have HQ := Lib.hid (show G rk = .ok (EffX.e q, r') by rw [hq]; exact HX.out)
          have HEL := Lib.hid hel
          have HRA := Lib.hid hrdA
          have HOA := Lib.hid hoA
          have h00 : ((0 : Int) != 0) = false := rfl
          have hownA := own_only HI.out.own hoA HGW.out
          have HOW := Lib.hid ((hownA.alloc (.cells (EffX.cells q).toArray 65)).alloc (.cells (EffX.cells q).toArray 65))
          have hrw := rows_one (wA.alloc (.cells (EffX.cells q).toArray 65)) (EffX.cells q) 65 9 rfl
          rw [World.size_alloc] at hrw
          have HRW := Lib.hid hrw
          clear hrw hq hel hrdA hoA hownA hlt HC HX
          have hb1 : k + 1 ≤ maxLen := by have := HC16.out; have := HLT.out; unfold maxLen; omega
          have hb2 : (k + 1) * 112 ≤ 140737488355328 := by have := HC16.out; have := HLT.out; omega
          have hb4 : ∀ u ∈ EffX.cells q, u.oneCell' = true := by
            intro u hu
            simp only [EffX.cells, List.mem_cons, List.not_mem_nil, or_false] at hu
            rcases hu with rfl | rfl | rfl | rfl | rfl | rfl | rfl | rfl | rfl <;> rfl
          have HBS := Lib.hid (And.intro hb1 (And.intro hb2 hb4))
          have hb5 : w.heap.size ≤ ((wA.alloc (.cells (EffX.cells q).toArray 65)).alloc (.cells (EffX.cells q).toArray 65)).heap.size := by have := HI.out.on.size; have := HOA.out.size; simp only [World.size_alloc]; omega
          have HB5 := Lib.hid hb5
          have hkb : k + 1 ≤ 1000000 := by have := HC16.out; have := HLT.out; omega
          clear hb1 hb2 hb4 hb5
          go_wp2_with (at_builtin; refine wpList_append_rows rfl (.tmp 25) (.tmp 27) 59 rfl w.heap.size 65 i1 (.agg #[.string ⟨#[]⟩, .int .i64 0, .slice none 0 0, .string ⟨#[]⟩, .int .i64 0, .int .i64 0, .bool false, .string ⟨#[]⟩, .float .f64 0]) 9 112 Tryz.underlying59 hi1 hz1 hsz1 hby1 rfl (by decide) _ k _ rfl HOW.out _ 1 (EffX.cells q) rfl HRW.out HBS.out.2.2 HBS.out.1 HBS.out.2.1 HB5.out ?_; intro v4 w4 hown4 hgr4 hor4; have HN := Lib.hid (LsI.next mvkEff (by decide) HGW.out HI.out HLT.out HQ.out HRL.out HEL.out HRA.out HOA.out ((alloc1 _ _).trans ((alloc1 _ _).mono (by simp))) hown4 hgr4 hor4); clear hown4 hgr4 hor4)
          go_roundw
          case rel => exact ⟨k + 1, _, _, by have := HLT.out; omega, by go_num, HN.out⟩
          case measure => simp [intOf]; have := HLT.out; omega
      · obtain rfl : k = c := by omega
        have hltI : ¬ (k : Int) < (k : Int) := by omega
        go_wp2_with fail
        refine (Err_any g rk 0 wr HI.out.rd).mono ?_
        rintro _ w' ⟨rfl, rfl⟩
        go_wp2
        exact bodyPost_ret (v := .tuple #[_, .int .i64 0]) (by simp [results, Tryz.results147, go_sem]) rfl HI.out.end
  · have hc0 : c = 0 := hno he
    subst hc0
    have hL : getS G (0, r1, e1) = .error e1 := if_neg he
    rw [hL]
    clear hL hyes hno hst hl1 hlen hG hne hbd hr hm
    have hsf := fun (w : World) (a : Addr) (m : Mode) (b : Nat) => run_store Tryz.prog w a (.float .f64 b) m rfl
    go_enter Tryz.func147, Tryz.ntmps147
    go_wp2_with fail
    refine HCN.out.mono ?_
    rintro _ w1 ⟨rfl, hrd, hon⟩
    have HRD := Lib.hid hrd
    have HON := Lib.hid hon
    clear hrd hon HCN
    go_wp2
    go_loopw [8, 14] (fun row i wr => row = .slice none 0 0 ∧ i = .int .i64 0 ∧ wr = w1) (fun _ i _ => (intOf i).toNat)
    case atStart => exact ⟨rfl, rfl, rfl⟩
    case round =>
      obtain ⟨rfl, rfl, rfl⟩ := hrel
      have hltI : ¬ (0 : Int) < ((0 : Nat) : Int) := by omega
      go_wp2_with fail
      refine (Err_any g r1 e1 wr HRD.out).mono ?_
      rintro _ w' ⟨rfl, rfl⟩
      go_wp2
      exact bodyPost_ret (v := .tuple #[.slice none 0 0, .int .i64 e1]) (by simp [results, Tryz.results147, go_sem]) rfl ⟨rfl, ⟨_, _, HRD.out⟩, HON.out⟩
def BadMv (u : Value) : Prop := ∃ mn f t op A n c nm, ∃ y : Vl, ∃ EA en ec o, u = .agg #[.string mn, .int .i64 f, .int .i64 t, .int .i64 op, .slice A n c, .string nm, .int .i64 y.k, .int .i64 y.i, .bool y.b, .string y.s, .float .f64 y.n, .slice EA en ec, .int .i64 o]
theorem infoMv : (Tryz.prog.info? 61).map (fun i => (i.zero, i.size, i.bytes)) = some (some (.agg #[.string ⟨#[]⟩, .int .i64 0, .int .i64 0, .int .i64 0, .slice none 0 0, .string ⟨#[]⟩, .int .i64 0, .int .i64 0, .bool false, .string ⟨#[]⟩, .float .f64 0, .slice none 0 0, .int .i64 0]), 13, 160) := by kernel_rfl
theorem mvkMv (S T : Nat → Prop) (w w' : World) (q : MvX) (h : Kept S T w w') (hz : w.heap.size ≤ w'.heap.size) (hq : (fun S w q => MvX.ok S w q) S w q) : (fun S w q => MvX.ok S w q) T w' q := ⟨hq.1.move h hz, hq.2.move h hz⟩
set_option maxHeartbeats 4000000 in
theorem getL_Mv (g most : Nat) (G : List UInt8 → Except Int (Mv × List UInt8)) (rest : List UInt8) (e0 : Int) (w : World) (hr : RdR w g rest e0) (hlen : rest.length ≤ 1000000000000) (hm : most ≤ 16)
    (hG : ∀ r W, RdR W g r 0 → r.length ≤ 1000000000000 → Calls Tryz.prog 106 #[.pointer (some ⟨g, 0, none⟩)] W (ElP BadMv g (fun q => .agg (MvX.cells q).toArray) MvX.m (fun S w q => MvX.ok S w q) (G r) W))
    (hne : ∀ r er, G r = .error er → er ≠ 0) (hbd : ∀ r x r', G r = .ok (x, r') → r'.length ≤ r.length) :
    Calls Tryz.prog 105 #[.pointer (some ⟨g, 0, none⟩), .int .i64 most, .func (Fn.func 106) #[] #[]] w (LsP g 61 13 MvX.cells MvX.m (fun S w q => MvX.ok S w q) (getS G (stepF 4 (alCount (most : Int)) rest e0)) w) := by
  have hcnt := Count_any g rest e0 (most : Int) (by omega) (by omega) w hr
  have hl1 := stepF_len 4 (alCount (most : Int)) rest e0
  have hcl := step4_le (alCount (most : Int)) rest e0
  rcases hst : stepF 4 (alCount (most : Int)) rest e0 with ⟨c, r1, e1⟩
  have hno : e1 ≠ 0 → c = 0 := fun he => step4_no _ _ _ _ _ _ he hst
  have hyes : e1 = 0 → c ≤ 16 := fun he => step4_le16 most rest r1 e0 c hm (by rw [← he]; exact hst)
  rw [hst] at hcnt hl1 hcl
  dsimp only at hcnt hl1 hcl
  rw [wrap64_of (c : Int) ⟨by omega, by omega⟩] at hcnt
  have HCN := Lib.hid hcnt
  clear hcl
  have HGW := Lib.hid hr.lt
  clear hcnt
  by_cases he : e1 = 0
  · subst he
    have hc16 : c ≤ 16 := hyes rfl
    have hL : getS G (c, r1, 0) = getN G c r1 := if_pos rfl
    rw [hL]
    clear hL hyes hno hst
    generalize hL : getN G c r1 = L
    have HL := Lib.hid hL
    have HLEN := Lib.hid (show r1.length ≤ 1000000000000 from Nat.le_trans hl1 hlen)
    have HG := Lib.hid hG
    have HNE := Lib.hid hne
    have HBD := Lib.hid hbd
    have HC16 := Lib.hid hc16
    clear hL hl1 hlen hG hne hbd hr hm hc16
    obtain ⟨i1, hi1, hz1, hsz1, hby1⟩ := infoZ infoMv
    have hsf := fun (w : World) (a : Addr) (m : Mode) (b : Nat) => run_store Tryz.prog w a (.float .f64 b) m rfl
    go_enter Tryz.func105, Tryz.ntmps105
    go_wp2_with fail
    refine HCN.out.mono ?_
    rintro _ w1 ⟨rfl, hrd, hon⟩
    have HRD := Lib.hid hrd
    have HON := Lib.hid hon
    clear hrd hon HCN
    go_wp2
    go_loopw [8, 14] (fun row i wr => ∃ (k : Nat) (qs : List MvX) (rk : List UInt8), k ≤ c ∧ i = .int .i64 k ∧ LsI G w g 61 13 MvX.cells MvX.m (fun S w q => MvX.ok S w q) c L wr k qs rk row) (fun _ i _ => c - (intOf i).toNat)
    case atStart => exact ⟨0, [], r1, Nat.zero_le _, rfl, ⟨rfl, (by rw [List.map_nil, preN_nil, Nat.sub_zero]; exact HL.out), HLEN.out, HRD.out, World.ownsRow_nil _ _ _ _, (fun q hq => by cases hq), HON.out⟩⟩
    case round =>
      obtain ⟨k, qs, rk, hk, rfl, hi⟩ := hrel
      have HI := Lib.hid hi
      clear hi HRD HON
      by_cases hlt : k < c
      · have hltI : (k : Int) < (c : Int) := by omega
        have hcall := HG.out rk wr HI.out.rd HI.out.len
        rcases hx : G rk with er | ⟨x, r'⟩
        · rw [hx] at hcall
          have hL : L = .error er := by rw [← HI.out.pre, show c - k = c - (k + 1) + 1 by omega]; exact preN_no _ hx
          have herb : (er != 0) = true := by simpa using HNE.out rk er hx
          subst hL
          have HC := Lib.hid (show Calls _ _ _ _ (fun e w' => ∃ u, BadMv u ∧ e = .returned (.tuple #[u, .int .i64 er]) ∧ (∃ r' e', RdR w' g r' e') ∧ Only g wr w') from hcall)
          clear hcall hx hlt
          go_wp2_with fail
          refine HC.out.mono ?_
          rintro _ wA ⟨u, hu, rfl, hrA, hoA⟩
          obtain ⟨mn0, f0, t0, op0, A0, n0, c0, nm0, y0, EA0, en0, ec0, o0, rfl⟩ := hu
          have HRA := Lib.hid hrA
          have HOA := Lib.hid (HI.out.on.trans hoA)
          clear hrA hoA HC
          go_wp2
          exact bodyPost_ret (v := .tuple #[.slice none 0 0, .int .i64 er]) (by simp [results, Tryz.results105, go_sem]) rfl ⟨rfl, ⟨_, _, HRA.out.choose_spec.choose_spec.below (alloc1 _ _)⟩, Only.below HOA.out (alloc1 _ _)⟩
        · rw [hx] at hcall
          have HC := Lib.hid (show Calls _ _ _ _ (fun e w' => ∃ q : MvX, MvX.m q = x ∧ e = .returned (.tuple #[.agg #[.string q.m.name, .int .i64 q.m.frm, .int .i64 q.m.too, .int .i64 q.m.guard.op, .slice q.A q.m.guard.kids.length q.c, .string q.m.guard.name, .int .i64 q.m.guard.val.k, .int .i64 q.m.guard.val.i, .bool q.m.guard.val.b, .string q.m.guard.val.s, .float .f64 q.m.guard.val.n, .slice q.EA q.m.effs.length q.ec, .int .i64 q.m.org], .int .i64 0]) ∧ (fun S w q => MvX.ok S w q) (fun b => wr.heap.size ≤ b) w' q ∧ RdR w' g r' 0 ∧ Only g wr w') from hcall)
          have HX := Lib.hid hx
          have HLT := Lib.hid hlt
          have HLI := Lib.hid hltI
          have HRL := Lib.hid (HBD.out _ _ _ hx)
          clear hcall hx
          go_wp2_with fail
          refine HC.out.mono ?_
          rintro _ wA ⟨q, hq, rfl, hel, hrdA, hoA⟩
          have HQ := Lib.hid (show G rk = .ok (MvX.m q, r') by rw [hq]; exact HX.out)
          have HEL := Lib.hid hel
          have HRA := Lib.hid hrdA
          have HOA := Lib.hid hoA
          have h00 : ((0 : Int) != 0) = false := rfl
          have hownA := own_only HI.out.own hoA HGW.out
          have HOW := Lib.hid ((hownA.alloc (.cells (MvX.cells q).toArray 61)).alloc (.cells (MvX.cells q).toArray 61))
          have hrw := rows_one (wA.alloc (.cells (MvX.cells q).toArray 61)) (MvX.cells q) 61 13 rfl
          rw [World.size_alloc] at hrw
          have HRW := Lib.hid hrw
          clear hrw hq hel hrdA hoA hownA hlt HC HX
          have hb1 : k + 1 ≤ maxLen := by have := HC16.out; have := HLT.out; unfold maxLen; omega
          have hb2 : (k + 1) * 160 ≤ 140737488355328 := by have := HC16.out; have := HLT.out; omega
          have hb4 : ∀ u ∈ MvX.cells q, u.oneCell' = true := by
            intro u hu
            simp only [MvX.cells, List.mem_cons, List.not_mem_nil, or_false] at hu
            rcases hu with rfl | rfl | rfl | rfl | rfl | rfl | rfl | rfl | rfl | rfl | rfl | rfl | rfl <;> rfl
          have HBS := Lib.hid (And.intro hb1 (And.intro hb2 hb4))
          have hb5 : w.heap.size ≤ ((wA.alloc (.cells (MvX.cells q).toArray 61)).alloc (.cells (MvX.cells q).toArray 61)).heap.size := by have := HI.out.on.size; have := HOA.out.size; simp only [World.size_alloc]; omega
          have HB5 := Lib.hid hb5
          have hkb : k + 1 ≤ 1000000 := by have := HC16.out; have := HLT.out; omega
          clear hb1 hb2 hb4 hb5
          go_wp2_with (at_builtin; refine wpList_append_rows rfl (.tmp 25) (.tmp 27) 24 rfl w.heap.size 61 i1 (.agg #[.string ⟨#[]⟩, .int .i64 0, .int .i64 0, .int .i64 0, .slice none 0 0, .string ⟨#[]⟩, .int .i64 0, .int .i64 0, .bool false, .string ⟨#[]⟩, .float .f64 0, .slice none 0 0, .int .i64 0]) 13 160 Tryz.underlying24 hi1 hz1 hsz1 hby1 rfl (by decide) _ k _ rfl HOW.out _ 1 (MvX.cells q) rfl HRW.out HBS.out.2.2 HBS.out.1 HBS.out.2.1 HB5.out ?_; intro v4 w4 hown4 hgr4 hor4; have HN := Lib.hid (LsI.next mvkMv (by decide) HGW.out HI.out HLT.out HQ.out HRL.out HEL.out HRA.out HOA.out ((alloc1 _ _).trans ((alloc1 _ _).mono (by simp))) hown4 hgr4 hor4); clear hown4 hgr4 hor4)
          go_roundw
          case rel => exact ⟨k + 1, _, _, by have := HLT.out; omega, by go_num, HN.out⟩
          case measure => simp [intOf]; have := HLT.out; omega
      · obtain rfl : k = c := by omega
        have hltI : ¬ (k : Int) < (k : Int) := by omega
        go_wp2_with fail
        refine (Err_any g rk 0 wr HI.out.rd).mono ?_
        rintro _ w' ⟨rfl, rfl⟩
        go_wp2
        exact bodyPost_ret (v := .tuple #[_, .int .i64 0]) (by simp [results, Tryz.results105, go_sem]) rfl HI.out.end
  · have hc0 : c = 0 := hno he
    subst hc0
    have hL : getS G (0, r1, e1) = .error e1 := if_neg he
    rw [hL]
    clear hL hyes hno hst hl1 hlen hG hne hbd hr hm
    have hsf := fun (w : World) (a : Addr) (m : Mode) (b : Nat) => run_store Tryz.prog w a (.float .f64 b) m rfl
    go_enter Tryz.func105, Tryz.ntmps105
    go_wp2_with fail
    refine HCN.out.mono ?_
    rintro _ w1 ⟨rfl, hrd, hon⟩
    have HRD := Lib.hid hrd
    have HON := Lib.hid hon
    clear hrd hon HCN
    go_wp2
    go_loopw [8, 14] (fun row i wr => row = .slice none 0 0 ∧ i = .int .i64 0 ∧ wr = w1) (fun _ i _ => (intOf i).toNat)
    case atStart => exact ⟨rfl, rfl, rfl⟩
    case round =>
      obtain ⟨rfl, rfl, rfl⟩ := hrel
      have hltI : ¬ (0 : Int) < ((0 : Nat) : Int) := by omega
      go_wp2_with fail
      refine (Err_any g r1 e1 wr HRD.out).mono ?_
      rintro _ w' ⟨rfl, rfl⟩
      go_wp2
      exact bodyPost_ret (v := .tuple #[.slice none 0 0, .int .i64 e1]) (by simp [results, Tryz.results105, go_sem]) rfl ⟨rfl, ⟨_, _, HRD.out⟩, HON.out⟩
end Go.Proofs.YthgdnpcfdgimlabGreat

/- Layer 6: a name, a text, an int are read by the program; lists in one form. (Made by gen/gencgetf.py.) -/
namespace Go.Proofs.YthgdnpcfdgimlabGreat
open Go.RowKit
set_option linter.unusedVariables false
set_option linter.unusedSimpArgs false
set_option maxRecDepth 20000

theorem getName_any (g : Nat) (rest : List UInt8) (e0 : Int) (w : World) (hr : RdR w g rest e0) (hlen : rest.length ≤ 1000000000000) :
    Calls Tryz.prog 100 #[.pointer (some ⟨g, 0, none⟩)] w (Did g (.string (strB (bytesF 16 rest e0).1)) (bytesF 16 rest e0).2.1 (bytesF 16 rest e0).2.2 w) := by
  have hq := Bytes_any g rest e0 16 (by omega) (by omega) w hr (by omega)
  rcases hst : bytesF 16 rest e0 with ⟨m, r1, e1⟩
  rw [hst] at hq
  dsimp only at hq ⊢
  have HQ := Lib.hid hq
  clear hq hst hr
  go_enter Tryz.func100, Tryz.ntmps100
  go_wp2_with fail
  refine HQ.out.mono ?_
  rintro _ w1 ⟨v, rfl, hv, hrd, hon⟩
  have hcv : (convert 34 9 v).run Tryz.prog w1 = .ok (.string (strB m)) w1 := run_str hv
  clear hv HQ
  go_wp2
  go_ret
  exact ⟨rfl, hrd, hon⟩
theorem getText_any (g : Nat) (rest : List UInt8) (w : World) (hr : RdR w g rest 0) (hlen : rest.length ≤ 1000000000000) :
    Calls Tryz.prog 142 #[.pointer (some ⟨g, 0, none⟩)] w (ElP BadStr g Value.string id okNone (gText rest) w) := by
  have hq := Bytes_any g rest 0 32 (by omega) (by omega) w hr (by omega)
  have hX : gText rest = okT (bytesF 32 rest 0) := rfl
  rw [hX]
  rcases hst : bytesF 32 rest 0 with ⟨m, r1, e1⟩
  rw [hst] at hq
  dsimp only at hq
  have HQ := Lib.hid hq
  clear hq hst hr hX
  go_enter Tryz.func142, Tryz.ntmps142
  go_wp2_with fail
  refine HQ.out.mono ?_
  rintro _ w1 ⟨v, rfl, hv, hrd, hon⟩
  have hcv : (convert 34 9 v).run Tryz.prog w1 = .ok (.string (strB m)) w1 := run_str hv
  have HRD := Lib.hid hrd
  have HON := Lib.hid hon
  clear hv HQ hrd hon
  go_wp2_with fail
  refine (Err_any g r1 e1 w1 HRD.out).mono ?_
  rintro _ w2 ⟨rfl, rfl⟩
  go_wp2
  refine bodyPost_ret (v := .tuple #[.string (strB m), .int .i64 e1]) (by simp [results, Tryz.results142, go_sem]) rfl ?_
  by_cases he : e1 = 0
  · subst he
    exact ⟨strB m, rfl, rfl, trivial, HRD.out, HON.out⟩
  · rw [show okT (m, r1, e1) = .error e1 from if_neg he]
    exact ⟨_, ⟨_, rfl⟩, rfl, ⟨_, _, HRD.out⟩, HON.out⟩
theorem getInt_walk (g : Nat) (m : Int) (r1 : List UInt8) (e1 : Int) (w : World) (hq : Calls Tryz.prog 140 #[.pointer (some ⟨g, 0, none⟩)] w (Did g (.int .i64 m) r1 e1 w)) :
    Calls Tryz.prog 145 #[.pointer (some ⟨g, 0, none⟩)] w (fun e w' => e = .returned (.tuple #[.int .i64 m, .int .i64 e1]) ∧ RdR w' g r1 e1 ∧ Only g w w') := by
  have HQ := Lib.hid hq
  clear hq
  go_enter Tryz.func145, Tryz.ntmps145
  go_wp2_with fail
  refine HQ.out.mono ?_
  rintro _ w1 ⟨rfl, hrd, hon⟩
  have HRD := Lib.hid hrd
  have HON := Lib.hid hon
  clear HQ hrd hon
  go_wp2_with fail
  refine (Err_any g r1 e1 w1 HRD.out).mono ?_
  rintro _ w2 ⟨rfl, rfl⟩
  go_wp2
  exact bodyPost_ret (v := .tuple #[.int .i64 m, .int .i64 e1]) (by simp [results, Tryz.results145, go_sem]) rfl ⟨rfl, HRD.out, HON.out⟩
theorem okI_yes {q : Nat × List UInt8 × Int} (he : q.2.2 = 0) : okI q = .ok (RowKit.wrap64 (q.1 : Int), q.2.1) := by
  unfold okI
  exact if_pos he
theorem elInt0 {g : Nat} {w : World} {e : Ending} {w' : World} (z : Int) (r : List UInt8) (h1 : e = .returned (.tuple #[.int .i64 z, .int .i64 0])) (h2 : RdR w' g r 0) (h3 : Only g w w') : ElP BadInt g (Value.int .i64) id okNone (.ok (z, r)) w e w' := ⟨z, rfl, h1, trivial, h2, h3⟩
theorem elInt {g : Nat} {q : Nat × List UInt8 × Int} {w : World} {e : Ending} {w' : World} (h : e = .returned (.tuple #[.int .i64 (RowKit.wrap64 (q.1 : Int)), .int .i64 q.2.2]) ∧ RdR w' g q.2.1 q.2.2 ∧ Only g w w') : ElP BadInt g (Value.int .i64) id okNone (okI q) w e w' := by
  obtain ⟨h1, h2, h3⟩ := h
  by_cases he : q.2.2 = 0
  · rw [he] at h1 h2
    rw [okI_yes he]
    exact elInt0 _ _ h1 h2 h3
  · rw [show okI q = .error q.2.2 from if_neg he]
    exact ⟨_, ⟨_, rfl⟩, h1, ⟨_, _, h2⟩, h3⟩
theorem getInt_any (g : Nat) (rest : List UInt8) (w : World) (hr : RdR w g rest 0) (hlen : rest.length ≤ 1000000000000) :
    Calls Tryz.prog 145 #[.pointer (some ⟨g, 0, none⟩)] w (ElP BadInt g (Value.int .i64) id okNone (gInt rest) w) :=
  (getInt_walk g _ _ _ w (Int_any g rest 0 w hr)).mono fun e w' h => elInt (q := stepF 8 alInt rest 0) h

/-- what a list's step leaves, in one form -/
def LsR {α : Type} (g : Nat) (N : (Nat → Prop) → World → Option Addr → Nat → List α → Prop) (X : Except Int (List α × List UInt8)) (w : World) (e : Ending) (w' : World) : Prop := match X with
  | .error er => e = .returned (.tuple #[.slice none 0 0, .int .i64 er]) ∧ (∃ r' e', RdR w' g r' e') ∧ Only g w w'
  | .ok x => ∃ A c, e = .returned (.tuple #[.slice A x.1.length c, .int .i64 0]) ∧ N (fun b => w.heap.size ≤ b) w' A c x.1 ∧ RdR w' g x.2 0 ∧ Only g w w'
theorem LsP.r {α β : Type} {g : Nat} {t : TypeId} {K : Nat} {cells : β → List Value} {val : β → α} {ok : (Nat → Prop) → World → β → Prop} {N : (Nat → Prop) → World → Option Addr → Nat → List α → Prop} {X : Except Int (List α × List UInt8)} {w : World} {e : Ending} {w' : World}
    (hN : ∀ (S T : Nat → Prop) (w' : World) (base n : Nat) (v : Value) (qs : List β), w'.ownsRow base t K v n (qs.flatMap cells) → (∀ q ∈ qs, ok S w' q) → (∀ b, S b → T b) → (∀ b, base ≤ b → T b) → ∃ A c, v = .slice A (qs.map val).length c ∧ N T w' A c (qs.map val))
    (h : LsP g t K cells val ok X w e w') : LsR g N X w e w' := by
  rcases X with er | ⟨l, r⟩
  · exact h
  · obtain ⟨qs, v, h1, h2, h3, h4, h5, h6⟩ := h
    obtain ⟨A, c, rfl, hn⟩ := hN _ (fun b => w.heap.size ≤ b) w' _ _ v qs h3 h4 (fun b hb => hb.1) (fun b hb => hb)
    dsimp only at h2
    subst h2
    exact ⟨A, c, h1, hn, h5, h6⟩
theorem getN_len {α : Type} (G : List UInt8 → Except Int (α × List UInt8)) (hG : ∀ r x r', G r = .ok (x, r') → r'.length ≤ r.length) : ∀ (c : Nat) (r : List UInt8) (l : List α) (r' : List UInt8), getN G c r = .ok (l, r') → r'.length ≤ r.length
  | 0, r, l, r', h => by
    injection h with h
    injection h with h1 h
    subst h
    exact Nat.le_refl _
  | c + 1, r, l, r', h => by
    unfold getN at h
    split at h
    · cases h
    rename_i x r1 h1
    split at h
    · cases h
    rename_i l2 r2 h2
    injection h with h
    injection h with h3 h
    subst h
    exact Nat.le_trans (getN_len G hG c _ _ _ h2) (hG _ _ _ h1)
theorem getN_ne {α : Type} (G : List UInt8 → Except Int (α × List UInt8)) (hG : ∀ r e, G r = .error e → e ≠ 0) : ∀ (c : Nat) (r : List UInt8) (e : Int), getN G c r = .error e → e ≠ 0
  | 0, r, e, h => by cases h
  | c + 1, r, e, h => by
    unfold getN at h
    split at h
    · rename_i e1 h1
      injection h with h
      subst h
      exact hG _ _ h1
    rename_i x r1 h1
    split at h
    · rename_i e1 h2
      injection h with h
      subst h
      exact getN_ne G hG c _ _ h2
    · cases h
theorem getS_ne {α : Type} (G : List UInt8 → Except Int (α × List UInt8)) (hG : ∀ r e, G r = .error e → e ≠ 0) (q : Nat × List UInt8 × Int) (e : Int) (h : getS G q = .error e) : e ≠ 0 := by
  unfold getS at h
  split at h
  · exact getN_ne G hG _ _ _ h
  · rename_i h0
    injection h with h
    subst h
    exact h0
theorem getS_len {α : Type} (G : List UInt8 → Except Int (α × List UInt8)) (hG : ∀ r x r', G r = .ok (x, r') → r'.length ≤ r.length) (al : Int → Int) (rest : List UInt8) (e : Int) (l : List α) (r' : List UInt8) (h : getS G (stepF 4 al rest e) = .ok (l, r')) : r'.length ≤ rest.length := by
  have hl := stepF_len 4 al rest e
  unfold getS at h
  split at h
  · exact Nat.le_trans (getN_len G hG _ _ _ _ h) hl
  · cases h
theorem gText_ne {r : List UInt8} {e : Int} (h : gText r = .error e) : e ≠ 0 := by
  have hX : gText r = okT (bytesF 32 r 0) := rfl
  rw [hX] at h
  generalize bytesF 32 r 0 = q at h
  unfold okT at h
  split at h
  · cases h
  · rename_i h0
    injection h with h
    subst h
    exact h0
theorem gText_len {r r' : List UInt8} {x : ByteArray} (h : gText r = .ok (x, r')) : r'.length ≤ r.length := by
  have hl := bytesF_len 32 r 0
  have hX : gText r = okT (bytesF 32 r 0) := rfl
  rw [hX] at h
  generalize bytesF 32 r 0 = q at h hl
  unfold okT at h
  split at h
  · injection h with h
    injection h with h1 h
    subst h
    exact hl
  · cases h
theorem gInt_ne {r : List UInt8} {e : Int} (h : gInt r = .error e) : e ≠ 0 := by
  have hX : gInt r = okI (stepF 8 alInt r 0) := rfl
  rw [hX] at h
  generalize stepF 8 alInt r 0 = q at h
  unfold okI at h
  split at h
  · cases h
  · rename_i h0
    injection h with h
    subst h
    exact h0
theorem gInt_len {r r' : List UInt8} {x : Int} (h : gInt r = .ok (x, r')) : r'.length ≤ r.length := by
  have hl := stepF_len 8 alInt r 0
  have hX : gInt r = okI (stepF 8 alInt r 0) := rfl
  rw [hX] at h
  generalize stepF 8 alInt r 0 = q at h hl
  unfold okI at h
  split at h
  · injection h with h
    injection h with h1 h
    subst h
    exact hl
  · cases h
theorem getTexts_any (g most : Nat) (rest : List UInt8) (e0 : Int) (w : World) (hr : RdR w g rest e0) (hlen : rest.length ≤ 1000000000000) (hm : most ≤ 16) :
    Calls Tryz.prog 141 #[.pointer (some ⟨g, 0, none⟩), .int .i64 most, .func (Fn.func 142) #[] #[]] w (LsR g TxN (getS gText (stepF 4 (alCount (most : Int)) rest e0)) w) :=
  (getL_Str g most gText rest e0 w hr hlen hm (fun r W h hl => getText_any g r W h hl) (fun r er h => gText_ne h) (fun r x r' h => gText_len h)).mono fun e w' h => h.r (N := TxN) fun S T w' base n v qs ho _ _ hT => rowN_own strC (fun _ => rfl) (by decide) id ho hT fun q hq b i hc => hc 0 Nat.one_pos
theorem getInts_any (g most : Nat) (rest : List UInt8) (e0 : Int) (w : World) (hr : RdR w g rest e0) (hlen : rest.length ≤ 1000000000000) (hm : most ≤ 16) :
    Calls Tryz.prog 144 #[.pointer (some ⟨g, 0, none⟩), .int .i64 most, .func (Fn.func 145) #[] #[]] w (LsR g IsN (getS gInt (stepF 4 (alCount (most : Int)) rest e0)) w) :=
  (getL_Int g most gInt rest e0 w hr hlen hm (fun r W h hl => getInt_any g r W h hl) (fun r er h => gInt_ne h) (fun r x r' h => gInt_len h)).mono fun e w' h => h.r (N := IsN) fun S T w' base n v qs ho _ _ hT => rowN_own intC (fun _ => rfl) (by decide) id ho hT fun q hq b i hc => hc 0 Nat.one_pos
end Go.Proofs.YthgdnpcfdgimlabGreat

/- Layer 6: a part is read by the program. (Made by gen/gencgetf.py.) -/
namespace Go.Proofs.YthgdnpcfdgimlabGreat
open Go.RowKit
set_option linter.unusedVariables false
set_option linter.unusedSimpArgs false
set_option maxRecDepth 20000

theorem keepZ {w w' : World} {g b : Nat} {o : Obj} (h : w.heap[b]? = some o) (ho : Only g w w') (hne : b ≠ g) : w'.heap[b]? = some o := (ho.block b (Array.getElem?_eq_some_iff.1 h).1 (by intro e; injection e with e; exact hne e)).trans h
theorem belowZ {w w' : World} {b : Nat} {o : Obj} (h : w.heap[b]? = some o) (hb : Below w.heap.size w w') : w'.heap[b]? = some o := (hb.block b (Array.getElem?_eq_some_iff.1 h).1).trans h
theorem heap_ltZ {w : World} {b : Nat} {o : Obj} (h : w.heap[b]? = some o) : b < w.heap.size := (Array.getElem?_eq_some_iff.1 h).1
theorem setZ {w : World} {b : Nat} {cs : Array Value} {t : TypeId} (h : w.heap[b]? = some (.cells cs t (0, 0))) (j : Nat) (u : Value) : (w.setCell ⟨b, j, none⟩ u).heap[b]? = some (.cells (cs.setIfInBounds j u) t (0, 0)) := by
  simp [World.setCell, Array.getElem?_modify, h]
theorem offZ {w : World} {b k : Nat} {o : Obj} (h : w.heap[b]? = some o) (hne : b ≠ k) (j : Nat) (u : Value) : (w.setCell ⟨k, j, none⟩ u).heap[b]? = some o := (Below.heap_setCell w _ u b hne).trans h
theorem keptOnly {N : Nat} {w w' : World} {S : Nat → Prop} (ho : Only N w w') (hS : ∀ b, S b → b ≠ N) : Kept S S w w' := fun b hb hl => ⟨ho.block b hl (by intro e; injection e with e; exact hS b hb e), hb⟩
theorem keptBelow {w w' : World} {S : Nat → Prop} (hb : Below w.heap.size w w') : Kept S S w w' := fun b h hl => ⟨hb.block b hl, h⟩
theorem keptMore {w : World} {S T : Nat → Prop} (h : ∀ b, S b → T b) : Kept S T w w := fun b hb _ => ⟨rfl, h b hb⟩
theorem ElP.err {α β : Type} {bad : Value → Prop} {g bz : Nat} {vl : β → Value} {val : β → α} {ok : (Nat → Prop) → World → β → Prop} {er : Int} {w W W' : World} {u : Value} {zs : Array Value} {T : TypeId} {fr : Nat × Nat} (hbad : bad u) (hr : ∃ r' e', RdR W g r' e') (ho : Only g w W) (hz : W.heap[bz]? = some (.cells zs T fr)) (ht : T ≠ 5) (hb : w.heap.size ≤ bz) (hg : g ≠ bz) (hs : Only bz W W') : ElP bad g vl val ok (.error er) w (.returned (.tuple #[u, .int .i64 er])) W' := by
  obtain ⟨r', e', hr⟩ := hr
  exact ⟨u, hbad, rfl, ⟨r', e', hr.offT hs hg hz ht⟩, ho.new hs hb⟩
theorem ElP.fin {α β : Type} {bad : Value → Prop} {g bz : Nat} {vl : β → Value} {val : β → α} {ok : (Nat → Prop) → World → β → Prop} {w W W' : World} {r : List UInt8} {zs : Array Value} {T : TypeId} {fr : Nat × Nat} (hmv : ∀ (S T : Nat → Prop) (w w' : World) (q : β), Kept S T w w' → w.heap.size ≤ w'.heap.size → ok S w q → ok T w' q) (q : β) (hok : ok (fun b => bz < b) W q) (hr : RdR W g r 0) (ho : Only g w W) (hz : W.heap[bz]? = some (.cells zs T fr)) (ht : T ≠ 5) (hb : w.heap.size ≤ bz) (hg : g ≠ bz) (hs : Only bz W W') : ElP bad g vl val ok (.ok (val q, r)) w (.returned (.tuple #[vl q, .int .i64 0])) W' :=
  ⟨q, rfl, rfl, hmv _ _ _ _ q (fun b hb2 hl => ⟨hs.block b hl (by intro e; injection e with e; omega), by omega⟩) hs.size hok, hr.offT hs hg hz ht, ho.new hs hb⟩
/-- what value.Get leaves -/
def VeP (g : Nat) (X : Except Int (Vl × List UInt8)) (w : World) (e : Ending) (w' : World) : Prop := match X with
  | .error er => (∃ v, e = .returned (pairVE v er)) ∧ (∃ r' e', RdR w' g r' e') ∧ Only g w w'
  | .ok x => e = .returned (pairVE x.1 0) ∧ RdR w' g x.2 0 ∧ Only g w w'
theorem veOf {g : Nat} {er : Int} {v : Vl} {r2 : List UInt8} {e2 : Int} (hok : er = 0 → e2 = 0) {w : World} {e : Ending} {w' : World} (h : GetP g v er r2 e2 w e w') : VeP g (if er = 0 then .ok (v, r2) else .error er) w e w' := by
  obtain ⟨h1, h2, h3⟩ := h
  by_cases he : er = 0
  · rw [if_pos he]
    subst he
    rw [hok rfl] at h2
    exact ⟨h1, h2, h3⟩
  · rw [if_neg he]
    exact ⟨⟨v, h1⟩, ⟨_, _, h2⟩, h3⟩
theorem gVal_any (g : Nat) (rest : List UInt8) (w : World) (hr : RdR w g rest 0) (hlen : rest.length ≤ 1000000000000) : Calls Tryz.prog 143 #[.pointer (some ⟨g, 0, none⟩)] w (VeP g (gVal rest) w) :=
  (Get_any g rest 0 w hr hlen).mono fun e w' h => veOf (er := getE rest 0) (v := getV rest 0) (r2 := (readF rest 0).2.1) (getE_ok rest 0) h
set_option maxHeartbeats 4000000 in
theorem getField_walk (g : Nat) (rest r1 r2 : List UInt8) (e0 e1 e2 : Int) (nm : ByteArray) (k : Int) (L : Except Int (List ByteArray × List UInt8)) (V : List UInt8 → Except Int (Vl × List UInt8)) (w : World) (hr : RdR w g rest e0)
    (q1 : ∀ W, RdR W g rest e0 → Calls Tryz.prog 100 #[.pointer (some ⟨g, 0, none⟩)] W (Did g (.string nm) r1 e1 W))
    (q2 : ∀ W, RdR W g r1 e1 → Calls Tryz.prog 140 #[.pointer (some ⟨g, 0, none⟩)] W (Did g (.int .i64 k) r2 e2 W))
    (q3 : ∀ W, RdR W g r2 e2 → Calls Tryz.prog 141 #[.pointer (some ⟨g, 0, none⟩), .int .i64 4, .func (Fn.func 142) #[] #[]] W (LsR g TxN L W))
    (q4 : ∀ W en r3, L = .ok (en, r3) → RdR W g r3 0 → Calls Tryz.prog 143 #[.pointer (some ⟨g, 0, none⟩)] W (VeP g (V r3) W)) (hne : ∀ er, L = .error er → er ≠ 0) :
    Calls Tryz.prog 102 #[.pointer (some ⟨g, 0, none⟩)] w (ElP BadFld g (fun q => .agg (FldX.cells q).toArray) FldX.f (fun S w q => FldX.ok S w q) (okF nm k L V) w) := by
  have hsf := fun (w : World) (a : Addr) (m : Mode) (b : Nat) => run_store Tryz.prog w a (.float .f64 b) m rfl
  have Q1 := Lib.hid q1
  have Q2 := Lib.hid q2
  have Q3 := Lib.hid q3
  have Q4 := Lib.hid q4
  have HNE := Lib.hid hne
  clear q1 q2 q3 q4 hne
  have hgw := hr.lt
  have hgz : w.heap.size ≠ g := by omega
  have HR0 := Lib.hid (hr.below (alloc1 w (.cells #[.string ⟨#[]⟩, .int .i64 0, .slice none 0 0, .int .i64 0, .int .i64 0, .bool false, .string ⟨#[]⟩, .float .f64 0] 55)))
  have HZ0 := Lib.hid (heap_alloc_new w (.cells #[.string ⟨#[]⟩, .int .i64 0, .slice none 0 0, .int .i64 0, .int .i64 0, .bool false, .string ⟨#[]⟩, .float .f64 0] 55))
  have HO0 := Lib.hid (Only.below (Only.refl g w) (alloc1 w (.cells #[.string ⟨#[]⟩, .int .i64 0, .slice none 0 0, .int .i64 0, .int .i64 0, .bool false, .string ⟨#[]⟩, .float .f64 0] 55)))
  clear hr
  go_enter Tryz.func102, Tryz.ntmps102
  go_upto_region 1 with fail
  generalize w.alloc (.cells #[.string ⟨#[]⟩, .int .i64 0, .slice none 0 0, .int .i64 0, .int .i64 0, .bool false, .string ⟨#[]⟩, .float .f64 0] 55) = w0 at *
  go_wp2_with fail
  refine (Q1.out _ HR0.out).mono ?_
  rintro _ w1 ⟨rfl, hr1, ho1⟩
  have HZ1 := Lib.hid (keepZ HZ0.out ho1 hgz)
  have HO1 := Lib.hid (HO0.out.trans ho1)
  have HR1 := Lib.hid hr1
  clear hr1 ho1 HR0 HZ0 HO0
  go_wp2_with fail
  refine (Q2.out _ HR1.out).mono ?_
  rintro _ w2 ⟨rfl, hr2, ho2⟩
  have HZ2 := Lib.hid (keepZ HZ1.out ho2 hgz)
  have HO2 := Lib.hid (HO1.out.trans ho2)
  have HR2 := Lib.hid hr2
  clear hr2 ho2 HR1 HZ1 HO1
  have hzx : w.heap.size < w2.heap.size := heap_ltZ HZ2.out
  go_upto_region 2 with fail
  have HX3 := Lib.hid (heap_alloc_new w2 (.cells #[.string nm, .int .i64 k, .slice none 0 0, .int .i64 0, .int .i64 0, .bool false, .string ⟨#[]⟩, .float .f64 0] 55))
  have HZ3 := Lib.hid (belowZ HZ2.out (alloc1 w2 (.cells #[.string nm, .int .i64 k, .slice none 0 0, .int .i64 0, .int .i64 0, .bool false, .string ⟨#[]⟩, .float .f64 0] 55)))
  have HO3 := Lib.hid (Only.below HO2.out (alloc1 w2 (.cells #[.string nm, .int .i64 k, .slice none 0 0, .int .i64 0, .int .i64 0, .bool false, .string ⟨#[]⟩, .float .f64 0] 55)))
  have HR3 := Lib.hid (HR2.out.below (alloc1 w2 (.cells #[.string nm, .int .i64 k, .slice none 0 0, .int .i64 0, .int .i64 0, .bool false, .string ⟨#[]⟩, .float .f64 0] 55)))
  clear HZ2 HO2 HR2
  generalize w2.alloc (.cells #[.string nm, .int .i64 k, .slice none 0 0, .int .i64 0, .int .i64 0, .bool false, .string ⟨#[]⟩, .float .f64 0] 55) = w3 at *
  generalize w2.heap.size = bx at *
  have hgx : g ≠ bx := by omega
  have hxg : bx ≠ g := by omega
  have hzx2 : w.heap.size ≠ bx := by omega
  have hbx : w.heap.size ≤ bx := by omega
  go_wp2_with fail
  refine (Q3.out _ HR3.out).mono ?_
  rintro e w4 h4
  clear Q1 Q2 Q3
  rcases L with er | ⟨en, r3⟩
  · skip
    obtain ⟨rfl, hrx, ho4⟩ := h4
    have HX4 := Lib.hid (keepZ HX3.out ho4 hxg)
    have HZ4 := Lib.hid (keepZ HZ3.out ho4 hgz)
    have HO4 := Lib.hid (HO3.out.trans ho4)
    clear HX3 HZ3 HO3 HR3 
    have HR4 := Lib.hid hrx
    have herb : (er != 0) = true := by simpa using HNE.out er rfl
    clear hrx ho4
    have x2 := (heap_at HX4.out 2).trans (rfl : _ = some (Value.slice none 0 0))
    have xf := heap_free HX4.out
    have xl : bx < w4.heap.size := heap_ltZ HX4.out
    go_upto_region 4 with fail
    have hon : Only bx w4 (w4.setCell ⟨bx, 2, none⟩ (.slice none 0 0)) := (Only.set (Only.refl bx w4) 2 (.slice none 0 0))
    have HX5 := Lib.hid (show (w4.setCell ⟨bx, 2, none⟩ (.slice none 0 0)).heap[bx]? = some (.cells #[.string nm, .int .i64 k, .slice none 0 0, .int .i64 0, .int .i64 0, .bool false, .string ⟨#[]⟩, .float .f64 0] 55 (0, 0)) from (setZ HX4.out 2 (.slice none 0 0)))
    have HZ5 := Lib.hid (offZ HZ4.out hzx2 2 (.slice none 0 0))
    have HO5 := Lib.hid (Only.setNew HO4.out hbx 2 (.slice none 0 0))
    have HR5 := Lib.hid (show ∃ r' e', RdR (w4.setCell ⟨bx, 2, none⟩ (.slice none 0 0)) g r' e' from by obtain ⟨r', e', h⟩ := HR4.out; exact ⟨r', e', h.offT hon hgx HX4.out (by decide)⟩)
    clear hon x2 xf xl HX4 HZ4 HO4 HR4 
    generalize (w4.setCell ⟨bx, 2, none⟩ (.slice none 0 0)) = w5 at *
    have v0 := (heap_at HZ5.out 0).trans (rfl : _ = some (Value.string ⟨#[]⟩))
    have v1 := (heap_at HZ5.out 1).trans (rfl : _ = some (Value.int .i64 0))
    have v2 := (heap_at HZ5.out 2).trans (rfl : _ = some (Value.slice none 0 0))
    have v3 := (heap_at HZ5.out 3).trans (rfl : _ = some (Value.int .i64 0))
    have v4 := (heap_at HZ5.out 4).trans (rfl : _ = some (Value.int .i64 0))
    have v5 := (heap_at HZ5.out 5).trans (rfl : _ = some (Value.bool false))
    have v6 := (heap_at HZ5.out 6).trans (rfl : _ = some (Value.string ⟨#[]⟩))
    have v7 := (heap_at HZ5.out 7).trans (rfl : _ = some (Value.float .f64 0))
    have x0 := (heap_at HX5.out 0).trans (rfl : _ = some (Value.string nm))
    have x1 := (heap_at HX5.out 1).trans (rfl : _ = some (Value.int .i64 k))
    have x2 := (heap_at HX5.out 2).trans (rfl : _ = some (Value.slice none 0 0))
    have x3 := (heap_at HX5.out 3).trans (rfl : _ = some (Value.int .i64 0))
    have x4 := (heap_at HX5.out 4).trans (rfl : _ = some (Value.int .i64 0))
    have x5 := (heap_at HX5.out 5).trans (rfl : _ = some (Value.bool false))
    have x6 := (heap_at HX5.out 6).trans (rfl : _ = some (Value.string ⟨#[]⟩))
    have x7 := (heap_at HX5.out 7).trans (rfl : _ = some (Value.float .f64 0))
    have vf := heap_free HZ5.out
    have xf := heap_free HX5.out
    have vl : w.heap.size < w5.heap.size := heap_ltZ HZ5.out
    have xl : bx < w5.heap.size := heap_ltZ HX5.out
    go_wp2
    exact bodyPost_ret (v := .tuple #[.agg #[.string nm, .int .i64 k, .slice none 0 0, .int .i64 0, .int .i64 0, .bool false, .string ⟨#[]⟩, .float .f64 0], .int .i64 er]) (by simp [results, Tryz.results102, go_sem, v0, v1, v2, v3, v4, v5, v6, v7, vl]) rfl (ElP.err ⟨_, _, _, _, _, vZero, rfl⟩ HR5.out HO5.out HZ5.out (by decide) (Nat.le_refl _) hgz.symm (((((((((Only.refl w.heap.size w5).set 0 _).set 1 _).set 2 _).set 3 _).set 4 _).set 5 _).set 6 _).set 7 _))
  · skip
    obtain ⟨A, c, rfl, hn, hrx, ho4⟩ := h4
    have hszx := heap_ltZ HX3.out
    have HX4 := Lib.hid (keepZ HX3.out ho4 hxg)
    have HZ4 := Lib.hid (keepZ HZ3.out ho4 hgz)
    have HO4 := Lib.hid (HO3.out.trans ho4)
    clear HX3 HZ3 HO3 HR3 
    dsimp only at hrx hn
    have HR4 := Lib.hid hrx
    have HN4 := Lib.hid (show TxN (fun b => bx < b) w4 A c en from hn.move (keptMore fun b hb => by omega) (Nat.le_refl _))
    clear hrx ho4 hn hszx
    have h00 : ((0 : Int) != 0) = false := rfl
    have x2 := (heap_at HX4.out 2).trans (rfl : _ = some (Value.slice none 0 0))
    have xf := heap_free HX4.out
    have xl : bx < w4.heap.size := heap_ltZ HX4.out
    go_upto_region 4 with fail
    have hon : Only bx w4 (w4.setCell ⟨bx, 2, none⟩ (.slice A en.length c)) := (Only.set (Only.refl bx w4) 2 (.slice A en.length c))
    have HX5 := Lib.hid (show (w4.setCell ⟨bx, 2, none⟩ (.slice A en.length c)).heap[bx]? = some (.cells #[.string nm, .int .i64 k, .slice A en.length c, .int .i64 0, .int .i64 0, .bool false, .string ⟨#[]⟩, .float .f64 0] 55 (0, 0)) from (setZ HX4.out 2 (.slice A en.length c)))
    have HZ5 := Lib.hid (offZ HZ4.out hzx2 2 (.slice A en.length c))
    have HO5 := Lib.hid (Only.setNew HO4.out hbx 2 (.slice A en.length c))
    have HR5 := Lib.hid (HR4.out.offT hon hgx HX4.out (by decide))
    have HN5 := Lib.hid (TxN.move (keptOnly hon (fun b hb => by omega)) hon.size HN4.out)
    clear hon x2 xf xl HX4 HZ4 HO4 HR4 HN4
    generalize (w4.setCell ⟨bx, 2, none⟩ (.slice A en.length c)) = w5 at *
    have hcall := Q4.out w5 en r3 rfl HR5.out
    clear Q4
    rcases hV : V r3 with er | ⟨v, r4⟩
    · skip
      rw [hV] at hcall
      have HOKF := Lib.hid (show okF nm k (.ok (en, r3)) V = .error er from by unfold okF; simp only [hV])
      have HC := Lib.hid hcall
      clear hcall hV
      go_wp2_with fail
      refine HC.out.mono ?_
      rintro e w6 h6
      obtain ⟨⟨v, rfl⟩, hrx, ho6⟩ := h6
      have HX6 := Lib.hid (keepZ HX5.out ho6 hxg)
      have HZ6 := Lib.hid (keepZ HZ5.out ho6 hgz)
      have HO6 := Lib.hid (HO5.out.trans ho6)
      have HN6 := Lib.hid (TxN.move (keptOnly ho6 (fun b hb => by omega)) ho6.size HN5.out)
      clear HX5 HZ5 HO5 HR5 HN5
      have HR6 := Lib.hid hrx
      clear hrx ho6 HC
      have x3 := (heap_at HX6.out 3).trans (rfl : _ = some (Value.int .i64 0))
      have x4 := (heap_at HX6.out 4).trans (rfl : _ = some (Value.int .i64 0))
      have x5 := (heap_at HX6.out 5).trans (rfl : _ = some (Value.bool false))
      have x6 := (heap_at HX6.out 6).trans (rfl : _ = some (Value.string ⟨#[]⟩))
      have x7 := (heap_at HX6.out 7).trans (rfl : _ = some (Value.float .f64 0))
      have xf := heap_free HX6.out
      have xl : bx < w6.heap.size := heap_ltZ HX6.out
      go_upto_region 7 with fail
      have hon : Only bx w6 (((((w6.setCell ⟨bx, 3, none⟩ (.int .i64 v.k)).setCell ⟨bx, 4, none⟩ (.int .i64 v.i)).setCell ⟨bx, 5, none⟩ (.bool v.b)).setCell ⟨bx, 6, none⟩ (.string v.s)).setCell ⟨bx, 7, none⟩ (.float .f64 v.n)) := (Only.set (Only.set (Only.set (Only.set (Only.set (Only.refl bx w6) 3 (.int .i64 v.k)) 4 (.int .i64 v.i)) 5 (.bool v.b)) 6 (.string v.s)) 7 (.float .f64 v.n))
      have HX7 := Lib.hid (show (((((w6.setCell ⟨bx, 3, none⟩ (.int .i64 v.k)).setCell ⟨bx, 4, none⟩ (.int .i64 v.i)).setCell ⟨bx, 5, none⟩ (.bool v.b)).setCell ⟨bx, 6, none⟩ (.string v.s)).setCell ⟨bx, 7, none⟩ (.float .f64 v.n)).heap[bx]? = some (.cells #[.string nm, .int .i64 k, .slice A en.length c, .int .i64 v.k, .int .i64 v.i, .bool v.b, .string v.s, .float .f64 v.n] 55 (0, 0)) from (setZ (setZ (setZ (setZ (setZ HX6.out 3 (.int .i64 v.k)) 4 (.int .i64 v.i)) 5 (.bool v.b)) 6 (.string v.s)) 7 (.float .f64 v.n)))
      have HZ7 := Lib.hid (offZ (offZ (offZ (offZ (offZ HZ6.out hzx2 3 (.int .i64 v.k)) hzx2 4 (.int .i64 v.i)) hzx2 5 (.bool v.b)) hzx2 6 (.string v.s)) hzx2 7 (.float .f64 v.n))
      have HO7 := Lib.hid (Only.setNew (Only.setNew (Only.setNew (Only.setNew (Only.setNew HO6.out hbx 3 (.int .i64 v.k)) hbx 4 (.int .i64 v.i)) hbx 5 (.bool v.b)) hbx 6 (.string v.s)) hbx 7 (.float .f64 v.n))
      have HR7 := Lib.hid (show ∃ r' e', RdR (((((w6.setCell ⟨bx, 3, none⟩ (.int .i64 v.k)).setCell ⟨bx, 4, none⟩ (.int .i64 v.i)).setCell ⟨bx, 5, none⟩ (.bool v.b)).setCell ⟨bx, 6, none⟩ (.string v.s)).setCell ⟨bx, 7, none⟩ (.float .f64 v.n)) g r' e' from by obtain ⟨r', e', h⟩ := HR6.out; exact ⟨r', e', h.offT hon hgx HX6.out (by decide)⟩)
      have HN7 := Lib.hid (TxN.move (keptOnly hon (fun b hb => by omega)) hon.size HN6.out)
      clear hon x3 x4 x5 x6 x7 xf xl HX6 HZ6 HO6 HR6 HN6
      generalize (((((w6.setCell ⟨bx, 3, none⟩ (.int .i64 v.k)).setCell ⟨bx, 4, none⟩ (.int .i64 v.i)).setCell ⟨bx, 5, none⟩ (.bool v.b)).setCell ⟨bx, 6, none⟩ (.string v.s)).setCell ⟨bx, 7, none⟩ (.float .f64 v.n)) = w7 at *
      have v0 := (heap_at HZ7.out 0).trans (rfl : _ = some (Value.string ⟨#[]⟩))
      have v1 := (heap_at HZ7.out 1).trans (rfl : _ = some (Value.int .i64 0))
      have v2 := (heap_at HZ7.out 2).trans (rfl : _ = some (Value.slice none 0 0))
      have v3 := (heap_at HZ7.out 3).trans (rfl : _ = some (Value.int .i64 0))
      have v4 := (heap_at HZ7.out 4).trans (rfl : _ = some (Value.int .i64 0))
      have v5 := (heap_at HZ7.out 5).trans (rfl : _ = some (Value.bool false))
      have v6 := (heap_at HZ7.out 6).trans (rfl : _ = some (Value.string ⟨#[]⟩))
      have v7 := (heap_at HZ7.out 7).trans (rfl : _ = some (Value.float .f64 0))
      have x0 := (heap_at HX7.out 0).trans (rfl : _ = some (Value.string nm))
      have x1 := (heap_at HX7.out 1).trans (rfl : _ = some (Value.int .i64 k))
      have x2 := (heap_at HX7.out 2).trans (rfl : _ = some (Value.slice A en.length c))
      have x3 := (heap_at HX7.out 3).trans (rfl : _ = some (Value.int .i64 v.k))
      have x4 := (heap_at HX7.out 4).trans (rfl : _ = some (Value.int .i64 v.i))
      have x5 := (heap_at HX7.out 5).trans (rfl : _ = some (Value.bool v.b))
      have x6 := (heap_at HX7.out 6).trans (rfl : _ = some (Value.string v.s))
      have x7 := (heap_at HX7.out 7).trans (rfl : _ = some (Value.float .f64 v.n))
      have vf := heap_free HZ7.out
      have xf := heap_free HX7.out
      have vl : w.heap.size < w7.heap.size := heap_ltZ HZ7.out
      have xl : bx < w7.heap.size := heap_ltZ HX7.out
      go_wp2
      exact bodyPost_ret (v := .tuple #[.agg #[.string nm, .int .i64 k, .slice A en.length c, .int .i64 v.k, .int .i64 v.i, .bool v.b, .string v.s, .float .f64 v.n], .int .i64 er]) (by simp [results, Tryz.results102, go_sem, v0, v1, v2, v3, v4, v5, v6, v7, vl]) rfl (by rw [HOKF.out]; exact ElP.err ⟨_, _, _, _, _, v, rfl⟩ HR7.out HO7.out HZ7.out (by decide) (Nat.le_refl _) hgz.symm (((((((((Only.refl w.heap.size w7).set 0 _).set 1 _).set 2 _).set 3 _).set 4 _).set 5 _).set 6 _).set 7 _))
    · skip
      rw [hV] at hcall
      have HOKF := Lib.hid (show okF nm k (.ok (en, r3)) V = .ok (⟨⟨nm, k⟩, en, v⟩, r4) from by unfold okF; simp only [hV])
      have HC := Lib.hid hcall
      clear hcall hV
      go_wp2_with fail
      refine HC.out.mono ?_
      rintro e w6 h6
      obtain ⟨rfl, hrx, ho6⟩ := h6
      have HX6 := Lib.hid (keepZ HX5.out ho6 hxg)
      have HZ6 := Lib.hid (keepZ HZ5.out ho6 hgz)
      have HO6 := Lib.hid (HO5.out.trans ho6)
      have HN6 := Lib.hid (TxN.move (keptOnly ho6 (fun b hb => by omega)) ho6.size HN5.out)
      clear HX5 HZ5 HO5 HR5 HN5
      dsimp only at hrx
      have HR6 := Lib.hid hrx
      clear hrx ho6 HC
      have x3 := (heap_at HX6.out 3).trans (rfl : _ = some (Value.int .i64 0))
      have x4 := (heap_at HX6.out 4).trans (rfl : _ = some (Value.int .i64 0))
      have x5 := (heap_at HX6.out 5).trans (rfl : _ = some (Value.bool false))
      have x6 := (heap_at HX6.out 6).trans (rfl : _ = some (Value.string ⟨#[]⟩))
      have x7 := (heap_at HX6.out 7).trans (rfl : _ = some (Value.float .f64 0))
      have xf := heap_free HX6.out
      have xl : bx < w6.heap.size := heap_ltZ HX6.out
      go_upto_region 7 with fail
      have hon : Only bx w6 (((((w6.setCell ⟨bx, 3, none⟩ (.int .i64 v.k)).setCell ⟨bx, 4, none⟩ (.int .i64 v.i)).setCell ⟨bx, 5, none⟩ (.bool v.b)).setCell ⟨bx, 6, none⟩ (.string v.s)).setCell ⟨bx, 7, none⟩ (.float .f64 v.n)) := (Only.set (Only.set (Only.set (Only.set (Only.set (Only.refl bx w6) 3 (.int .i64 v.k)) 4 (.int .i64 v.i)) 5 (.bool v.b)) 6 (.string v.s)) 7 (.float .f64 v.n))
      have HX7 := Lib.hid (show (((((w6.setCell ⟨bx, 3, none⟩ (.int .i64 v.k)).setCell ⟨bx, 4, none⟩ (.int .i64 v.i)).setCell ⟨bx, 5, none⟩ (.bool v.b)).setCell ⟨bx, 6, none⟩ (.string v.s)).setCell ⟨bx, 7, none⟩ (.float .f64 v.n)).heap[bx]? = some (.cells #[.string nm, .int .i64 k, .slice A en.length c, .int .i64 v.k, .int .i64 v.i, .bool v.b, .string v.s, .float .f64 v.n] 55 (0, 0)) from (setZ (setZ (setZ (setZ (setZ HX6.out 3 (.int .i64 v.k)) 4 (.int .i64 v.i)) 5 (.bool v.b)) 6 (.string v.s)) 7 (.float .f64 v.n)))
      have HZ7 := Lib.hid (offZ (offZ (offZ (offZ (offZ HZ6.out hzx2 3 (.int .i64 v.k)) hzx2 4 (.int .i64 v.i)) hzx2 5 (.bool v.b)) hzx2 6 (.string v.s)) hzx2 7 (.float .f64 v.n))
      have HO7 := Lib.hid (Only.setNew (Only.setNew (Only.setNew (Only.setNew (Only.setNew HO6.out hbx 3 (.int .i64 v.k)) hbx 4 (.int .i64 v.i)) hbx 5 (.bool v.b)) hbx 6 (.string v.s)) hbx 7 (.float .f64 v.n))
      have HR7 := Lib.hid (HR6.out.offT hon hgx HX6.out (by decide))
      have HN7 := Lib.hid (TxN.move (keptOnly hon (fun b hb => by omega)) hon.size HN6.out)
      clear hon x3 x4 x5 x6 x7 xf xl HX6 HZ6 HO6 HR6 HN6
      generalize (((((w6.setCell ⟨bx, 3, none⟩ (.int .i64 v.k)).setCell ⟨bx, 4, none⟩ (.int .i64 v.i)).setCell ⟨bx, 5, none⟩ (.bool v.b)).setCell ⟨bx, 6, none⟩ (.string v.s)).setCell ⟨bx, 7, none⟩ (.float .f64 v.n)) = w7 at *
      have v0 := (heap_at HZ7.out 0).trans (rfl : _ = some (Value.string ⟨#[]⟩))
      have v1 := (heap_at HZ7.out 1).trans (rfl : _ = some (Value.int .i64 0))
      have v2 := (heap_at HZ7.out 2).trans (rfl : _ = some (Value.slice none 0 0))
      have v3 := (heap_at HZ7.out 3).trans (rfl : _ = some (Value.int .i64 0))
      have v4 := (heap_at HZ7.out 4).trans (rfl : _ = some (Value.int .i64 0))
      have v5 := (heap_at HZ7.out 5).trans (rfl : _ = some (Value.bool false))
      have v6 := (heap_at HZ7.out 6).trans (rfl : _ = some (Value.string ⟨#[]⟩))
      have v7 := (heap_at HZ7.out 7).trans (rfl : _ = some (Value.float .f64 0))
      have x0 := (heap_at HX7.out 0).trans (rfl : _ = some (Value.string nm))
      have x1 := (heap_at HX7.out 1).trans (rfl : _ = some (Value.int .i64 k))
      have x2 := (heap_at HX7.out 2).trans (rfl : _ = some (Value.slice A en.length c))
      have x3 := (heap_at HX7.out 3).trans (rfl : _ = some (Value.int .i64 v.k))
      have x4 := (heap_at HX7.out 4).trans (rfl : _ = some (Value.int .i64 v.i))
      have x5 := (heap_at HX7.out 5).trans (rfl : _ = some (Value.bool v.b))
      have x6 := (heap_at HX7.out 6).trans (rfl : _ = some (Value.string v.s))
      have x7 := (heap_at HX7.out 7).trans (rfl : _ = some (Value.float .f64 v.n))
      have vf := heap_free HZ7.out
      have xf := heap_free HX7.out
      have vl : w.heap.size < w7.heap.size := heap_ltZ HZ7.out
      have xl : bx < w7.heap.size := heap_ltZ HX7.out
      go_wp2
      exact bodyPost_ret (v := .tuple #[.agg #[.string nm, .int .i64 k, .slice A en.length c, .int .i64 v.k, .int .i64 v.i, .bool v.b, .string v.s, .float .f64 v.n], .int .i64 0]) (by simp [results, Tryz.results102, go_sem, v0, v1, v2, v3, v4, v5, v6, v7, vl]) rfl (by rw [HOKF.out]; exact ElP.fin mvkFld ⟨⟨⟨nm, k⟩, en, v⟩, A, c⟩ (show TxN (fun b => w.heap.size < b) w7 A c en from TxN.move (keptMore fun b hb => by omega) (Nat.le_refl _) HN7.out) HR7.out HO7.out HZ7.out (by decide) (Nat.le_refl _) hgz.symm (((((((((Only.refl w.heap.size w7).set 0 _).set 1 _).set 2 _).set 3 _).set 4 _).set 5 _).set 6 _).set 7 _))
set_option maxHeartbeats 4000000 in
theorem getStage_walk (g : Nat) (rest r1 r2 : List UInt8) (e0 e1 e2 : Int) (nm : ByteArray) (k : Int) (L : Except Int (List Int × List UInt8)) (w : World) (hr : RdR w g rest e0)
    (q1 : ∀ W, RdR W g rest e0 → Calls Tryz.prog 100 #[.pointer (some ⟨g, 0, none⟩)] W (Did g (.string nm) r1 e1 W))
    (q2 : ∀ W, RdR W g r1 e1 → Calls Tryz.prog 140 #[.pointer (some ⟨g, 0, none⟩)] W (Did g (.int .i64 k) r2 e2 W))
    (q3 : ∀ W, RdR W g r2 e2 → Calls Tryz.prog 144 #[.pointer (some ⟨g, 0, none⟩), .int .i64 4, .func (Fn.func 145) #[] #[]] W (LsR g IsN L W)) :
    Calls Tryz.prog 104 #[.pointer (some ⟨g, 0, none⟩)] w (ElP BadStg g (fun q => .agg (StgX.cells q).toArray) StgX.s (fun S w q => StgX.ok S w q) (okS nm k L) w) := by
  have hsf := fun (w : World) (a : Addr) (m : Mode) (b : Nat) => run_store Tryz.prog w a (.float .f64 b) m rfl
  have Q1 := Lib.hid q1
  have Q2 := Lib.hid q2
  have Q3 := Lib.hid q3
  clear q1 q2 q3
  have hgw := hr.lt
  have hgz : w.heap.size ≠ g := by omega
  have HR0 := Lib.hid (hr.below (alloc1 w (.cells #[.string ⟨#[]⟩, .int .i64 0, .slice none 0 0] 69)))
  have HZ0 := Lib.hid (heap_alloc_new w (.cells #[.string ⟨#[]⟩, .int .i64 0, .slice none 0 0] 69))
  have HO0 := Lib.hid (Only.below (Only.refl g w) (alloc1 w (.cells #[.string ⟨#[]⟩, .int .i64 0, .slice none 0 0] 69)))
  clear hr
  go_enter Tryz.func104, Tryz.ntmps104
  go_upto_region 1 with fail
  generalize w.alloc (.cells #[.string ⟨#[]⟩, .int .i64 0, .slice none 0 0] 69) = w0 at *
  go_wp2_with fail
  refine (Q1.out _ HR0.out).mono ?_
  rintro _ w1 ⟨rfl, hr1, ho1⟩
  have HZ1 := Lib.hid (keepZ HZ0.out ho1 hgz)
  have HO1 := Lib.hid (HO0.out.trans ho1)
  have HR1 := Lib.hid hr1
  clear hr1 ho1 HR0 HZ0 HO0
  go_wp2_with fail
  refine (Q2.out _ HR1.out).mono ?_
  rintro _ w2 ⟨rfl, hr2, ho2⟩
  have HZ2 := Lib.hid (keepZ HZ1.out ho2 hgz)
  have HO2 := Lib.hid (HO1.out.trans ho2)
  have HR2 := Lib.hid hr2
  clear hr2 ho2 HR1 HZ1 HO1
  have hzx : w.heap.size < w2.heap.size := heap_ltZ HZ2.out
  go_upto_region 2 with fail
  have HX3 := Lib.hid (heap_alloc_new w2 (.cells #[.string nm, .int .i64 k, .slice none 0 0] 69))
  have HZ3 := Lib.hid (belowZ HZ2.out (alloc1 w2 (.cells #[.string nm, .int .i64 k, .slice none 0 0] 69)))
  have HO3 := Lib.hid (Only.below HO2.out (alloc1 w2 (.cells #[.string nm, .int .i64 k, .slice none 0 0] 69)))
  have HR3 := Lib.hid (HR2.out.below (alloc1 w2 (.cells #[.string nm, .int .i64 k, .slice none 0 0] 69)))
  clear HZ2 HO2 HR2
  generalize w2.alloc (.cells #[.string nm, .int .i64 k, .slice none 0 0] 69) = w3 at *
  generalize w2.heap.size = bx at *
  have hgx : g ≠ bx := by omega
  have hxg : bx ≠ g := by omega
  have hzx2 : w.heap.size ≠ bx := by omega
  have hbx : w.heap.size ≤ bx := by omega
  go_wp2_with fail
  refine (Q3.out _ HR3.out).mono ?_
  rintro e w4 h4
  clear Q1 Q2 Q3
  rcases L with er | ⟨og, r3⟩
  · skip
    obtain ⟨rfl, hrx, ho4⟩ := h4
    have HX4 := Lib.hid (keepZ HX3.out ho4 hxg)
    have HZ4 := Lib.hid (keepZ HZ3.out ho4 hgz)
    have HO4 := Lib.hid (HO3.out.trans ho4)
    clear HX3 HZ3 HO3 HR3 
    have HR4 := Lib.hid hrx
    clear hrx ho4
    have x2 := (heap_at HX4.out 2).trans (rfl : _ = some (Value.slice none 0 0))
    have xf := heap_free HX4.out
    have xl : bx < w4.heap.size := heap_ltZ HX4.out
    go_upto_region 4 with fail
    have hon : Only bx w4 (w4.setCell ⟨bx, 2, none⟩ (.slice none 0 0)) := (Only.set (Only.refl bx w4) 2 (.slice none 0 0))
    have HX5 := Lib.hid (show (w4.setCell ⟨bx, 2, none⟩ (.slice none 0 0)).heap[bx]? = some (.cells #[.string nm, .int .i64 k, .slice none 0 0] 69 (0, 0)) from (setZ HX4.out 2 (.slice none 0 0)))
    have HZ5 := Lib.hid (offZ HZ4.out hzx2 2 (.slice none 0 0))
    have HO5 := Lib.hid (Only.setNew HO4.out hbx 2 (.slice none 0 0))
    have HR5 := Lib.hid (show ∃ r' e', RdR (w4.setCell ⟨bx, 2, none⟩ (.slice none 0 0)) g r' e' from by obtain ⟨r', e', h⟩ := HR4.out; exact ⟨r', e', h.offT hon hgx HX4.out (by decide)⟩)
    clear hon x2 xf xl HX4 HZ4 HO4 HR4 
    generalize (w4.setCell ⟨bx, 2, none⟩ (.slice none 0 0)) = w5 at *
    have v0 := (heap_at HZ5.out 0).trans (rfl : _ = some (Value.string ⟨#[]⟩))
    have v1 := (heap_at HZ5.out 1).trans (rfl : _ = some (Value.int .i64 0))
    have v2 := (heap_at HZ5.out 2).trans (rfl : _ = some (Value.slice none 0 0))
    have x0 := (heap_at HX5.out 0).trans (rfl : _ = some (Value.string nm))
    have x1 := (heap_at HX5.out 1).trans (rfl : _ = some (Value.int .i64 k))
    have x2 := (heap_at HX5.out 2).trans (rfl : _ = some (Value.slice none 0 0))
    have vf := heap_free HZ5.out
    have xf := heap_free HX5.out
    have vl : w.heap.size < w5.heap.size := heap_ltZ HZ5.out
    have xl : bx < w5.heap.size := heap_ltZ HX5.out
    go_wp2
    exact bodyPost_ret (v := .tuple #[.agg #[.string nm, .int .i64 k, .slice none 0 0], .int .i64 er]) (by simp [results, Tryz.results104, go_sem, v0, v1, v2, vl]) rfl (ElP.err ⟨_, _, _, _, _, rfl⟩ HR5.out HO5.out HZ5.out (by decide) (Nat.le_refl _) hgz.symm ((((Only.refl w.heap.size w5).set 0 _).set 1 _).set 2 _))
  · skip
    obtain ⟨A, c, rfl, hn, hrx, ho4⟩ := h4
    have hszx := heap_ltZ HX3.out
    have HX4 := Lib.hid (keepZ HX3.out ho4 hxg)
    have HZ4 := Lib.hid (keepZ HZ3.out ho4 hgz)
    have HO4 := Lib.hid (HO3.out.trans ho4)
    clear HX3 HZ3 HO3 HR3 
    dsimp only at hrx hn
    have HR4 := Lib.hid hrx
    have HN4 := Lib.hid (show IsN (fun b => bx < b) w4 A c og from hn.move (keptMore fun b hb => by omega) (Nat.le_refl _))
    clear hrx ho4 hn hszx
    have x2 := (heap_at HX4.out 2).trans (rfl : _ = some (Value.slice none 0 0))
    have xf := heap_free HX4.out
    have xl : bx < w4.heap.size := heap_ltZ HX4.out
    go_upto_region 4 with fail
    have hon : Only bx w4 (w4.setCell ⟨bx, 2, none⟩ (.slice A og.length c)) := (Only.set (Only.refl bx w4) 2 (.slice A og.length c))
    have HX5 := Lib.hid (show (w4.setCell ⟨bx, 2, none⟩ (.slice A og.length c)).heap[bx]? = some (.cells #[.string nm, .int .i64 k, .slice A og.length c] 69 (0, 0)) from (setZ HX4.out 2 (.slice A og.length c)))
    have HZ5 := Lib.hid (offZ HZ4.out hzx2 2 (.slice A og.length c))
    have HO5 := Lib.hid (Only.setNew HO4.out hbx 2 (.slice A og.length c))
    have HR5 := Lib.hid (HR4.out.offT hon hgx HX4.out (by decide))
    have HN5 := Lib.hid (IsN.move (keptOnly hon (fun b hb => by omega)) hon.size HN4.out)
    clear hon x2 xf xl HX4 HZ4 HO4 HR4 HN4
    generalize (w4.setCell ⟨bx, 2, none⟩ (.slice A og.length c)) = w5 at *
    have v0 := (heap_at HZ5.out 0).trans (rfl : _ = some (Value.string ⟨#[]⟩))
    have v1 := (heap_at HZ5.out 1).trans (rfl : _ = some (Value.int .i64 0))
    have v2 := (heap_at HZ5.out 2).trans (rfl : _ = some (Value.slice none 0 0))
    have x0 := (heap_at HX5.out 0).trans (rfl : _ = some (Value.string nm))
    have x1 := (heap_at HX5.out 1).trans (rfl : _ = some (Value.int .i64 k))
    have x2 := (heap_at HX5.out 2).trans (rfl : _ = some (Value.slice A og.length c))
    have vf := heap_free HZ5.out
    have xf := heap_free HX5.out
    have vl : w.heap.size < w5.heap.size := heap_ltZ HZ5.out
    have xl : bx < w5.heap.size := heap_ltZ HX5.out
    go_wp2
    exact bodyPost_ret (v := .tuple #[.agg #[.string nm, .int .i64 k, .slice A og.length c], .int .i64 0]) (by simp [results, Tryz.results104, go_sem, v0, v1, v2, vl]) rfl (ElP.fin mvkStg ⟨⟨nm, k, og⟩, A, c⟩ (show IsN (fun b => w.heap.size < b) w5 A c og from IsN.move (keptMore fun b hb => by omega) (Nat.le_refl _) HN5.out) HR5.out HO5.out HZ5.out (by decide) (Nat.le_refl _) hgz.symm ((((Only.refl w.heap.size w5).set 0 _).set 1 _).set 2 _))
set_option maxHeartbeats 4000000 in
theorem getEffect_walk (g : Nat) (rest r1 : List UInt8) (e0 e1 : Int) (nm : ByteArray) (X : Except Int (Ex × Int × List UInt8)) (w : World) (hr : RdR w g rest e0)
    (q1 : ∀ W, RdR W g rest e0 → Calls Tryz.prog 100 #[.pointer (some ⟨g, 0, none⟩)] W (Did g (.string nm) r1 e1 W))
    (q2 : ∀ W, RdR W g r1 e1 → Calls Tryz.prog 146 #[.pointer (some ⟨g, 0, none⟩)] W (GxP g X W)) :
    Calls Tryz.prog 148 #[.pointer (some ⟨g, 0, none⟩)] w (ElP BadEff g (fun q => .agg (EffX.cells q).toArray) EffX.e (fun S w q => EffX.ok S w q) (okE nm X) w) := by
  have hsf := fun (w : World) (a : Addr) (m : Mode) (b : Nat) => run_store Tryz.prog w a (.float .f64 b) m rfl
  have Q1 := Lib.hid q1
  have Q2 := Lib.hid q2
  clear q1 q2
  have hgw := hr.lt
  have hgz : w.heap.size ≠ g := by omega
  have HR0 := Lib.hid (hr.below (alloc1 w (.cells #[.string ⟨#[]⟩, .int .i64 0, .slice none 0 0, .string ⟨#[]⟩, .int .i64 0, .int .i64 0, .bool false, .string ⟨#[]⟩, .float .f64 0] 65)))
  have HZ0 := Lib.hid (heap_alloc_new w (.cells #[.string ⟨#[]⟩, .int .i64 0, .slice none 0 0, .string ⟨#[]⟩, .int .i64 0, .int .i64 0, .bool false, .string ⟨#[]⟩, .float .f64 0] 65))
  have HO0 := Lib.hid (Only.below (Only.refl g w) (alloc1 w (.cells #[.string ⟨#[]⟩, .int .i64 0, .slice none 0 0, .string ⟨#[]⟩, .int .i64 0, .int .i64 0, .bool false, .string ⟨#[]⟩, .float .f64 0] 65)))
  clear hr
  go_enter Tryz.func148, Tryz.ntmps148
  go_upto_region 1 with fail
  generalize w.alloc (.cells #[.string ⟨#[]⟩, .int .i64 0, .slice none 0 0, .string ⟨#[]⟩, .int .i64 0, .int .i64 0, .bool false, .string ⟨#[]⟩, .float .f64 0] 65) = w0 at *
  go_wp2_with fail
  refine (Q1.out _ HR0.out).mono ?_
  rintro _ w1 ⟨rfl, hr1, ho1⟩
  have HZ1 := Lib.hid (keepZ HZ0.out ho1 hgz)
  have HO1 := Lib.hid (HO0.out.trans ho1)
  have HR1 := Lib.hid hr1
  clear hr1 ho1 HR0 HZ0 HO0
  have hzx : w.heap.size < w1.heap.size := heap_ltZ HZ1.out
  go_upto_region 2 with fail
  have HX2 := Lib.hid (heap_alloc_new w1 (.cells #[.string nm, .int .i64 0, .slice none 0 0, .string ⟨#[]⟩, .int .i64 0, .int .i64 0, .bool false, .string ⟨#[]⟩, .float .f64 0] 65))
  have HZ2 := Lib.hid (belowZ HZ1.out (alloc1 w1 (.cells #[.string nm, .int .i64 0, .slice none 0 0, .string ⟨#[]⟩, .int .i64 0, .int .i64 0, .bool false, .string ⟨#[]⟩, .float .f64 0] 65)))
  have HO2 := Lib.hid (Only.below HO1.out (alloc1 w1 (.cells #[.string nm, .int .i64 0, .slice none 0 0, .string ⟨#[]⟩, .int .i64 0, .int .i64 0, .bool false, .string ⟨#[]⟩, .float .f64 0] 65)))
  have HR2 := Lib.hid (HR1.out.below (alloc1 w1 (.cells #[.string nm, .int .i64 0, .slice none 0 0, .string ⟨#[]⟩, .int .i64 0, .int .i64 0, .bool false, .string ⟨#[]⟩, .float .f64 0] 65)))
  clear HZ1 HO1 HR1
  generalize w1.alloc (.cells #[.string nm, .int .i64 0, .slice none 0 0, .string ⟨#[]⟩, .int .i64 0, .int .i64 0, .bool false, .string ⟨#[]⟩, .float .f64 0] 65) = w2 at *
  generalize w1.heap.size = bx at *
  have hgx : g ≠ bx := by omega
  have hxg : bx ≠ g := by omega
  have hzx2 : w.heap.size ≠ bx := by omega
  have hbx : w.heap.size ≤ bx := by omega
  go_wp2_with fail
  refine (Q2.out _ HR2.out).mono ?_
  rintro e w3 h3
  clear Q1 Q2
  rcases X with er | ⟨x, n3, r3⟩
  · skip
    obtain ⟨rfl, hrx, ho3⟩ := h3
    have HX3 := Lib.hid (keepZ HX2.out ho3 hxg)
    have HZ3 := Lib.hid (keepZ HZ2.out ho3 hgz)
    have HO3 := Lib.hid (HO2.out.trans ho3)
    clear HX2 HZ2 HO2 HR2 
    have HR3 := Lib.hid hrx
    clear hrx ho3
    have x1 := (heap_at HX3.out 1).trans (rfl : _ = some (Value.int .i64 0))
    have x2 := (heap_at HX3.out 2).trans (rfl : _ = some (Value.slice none 0 0))
    have x3 := (heap_at HX3.out 3).trans (rfl : _ = some (Value.string ⟨#[]⟩))
    have x4 := (heap_at HX3.out 4).trans (rfl : _ = some (Value.int .i64 0))
    have x5 := (heap_at HX3.out 5).trans (rfl : _ = some (Value.int .i64 0))
    have x6 := (heap_at HX3.out 6).trans (rfl : _ = some (Value.bool false))
    have x7 := (heap_at HX3.out 7).trans (rfl : _ = some (Value.string ⟨#[]⟩))
    have x8 := (heap_at HX3.out 8).trans (rfl : _ = some (Value.float .f64 0))
    have xf := heap_free HX3.out
    have xl : bx < w3.heap.size := heap_ltZ HX3.out
    go_upto_region 4 with fail
    have hon : Only bx w3 ((((((((w3.setCell ⟨bx, 1, none⟩ (.int .i64 0)).setCell ⟨bx, 2, none⟩ (.slice none 0 0)).setCell ⟨bx, 3, none⟩ (.string ⟨#[]⟩)).setCell ⟨bx, 4, none⟩ (.int .i64 0)).setCell ⟨bx, 5, none⟩ (.int .i64 0)).setCell ⟨bx, 6, none⟩ (.bool false)).setCell ⟨bx, 7, none⟩ (.string ⟨#[]⟩)).setCell ⟨bx, 8, none⟩ (.float .f64 0)) := (Only.set (Only.set (Only.set (Only.set (Only.set (Only.set (Only.set (Only.set (Only.refl bx w3) 1 (.int .i64 0)) 2 (.slice none 0 0)) 3 (.string ⟨#[]⟩)) 4 (.int .i64 0)) 5 (.int .i64 0)) 6 (.bool false)) 7 (.string ⟨#[]⟩)) 8 (.float .f64 0))
    have HX4 := Lib.hid (show ((((((((w3.setCell ⟨bx, 1, none⟩ (.int .i64 0)).setCell ⟨bx, 2, none⟩ (.slice none 0 0)).setCell ⟨bx, 3, none⟩ (.string ⟨#[]⟩)).setCell ⟨bx, 4, none⟩ (.int .i64 0)).setCell ⟨bx, 5, none⟩ (.int .i64 0)).setCell ⟨bx, 6, none⟩ (.bool false)).setCell ⟨bx, 7, none⟩ (.string ⟨#[]⟩)).setCell ⟨bx, 8, none⟩ (.float .f64 0)).heap[bx]? = some (.cells #[.string nm, .int .i64 0, .slice none 0 0, .string ⟨#[]⟩, .int .i64 0, .int .i64 0, .bool false, .string ⟨#[]⟩, .float .f64 0] 65 (0, 0)) from (setZ (setZ (setZ (setZ (setZ (setZ (setZ (setZ HX3.out 1 (.int .i64 0)) 2 (.slice none 0 0)) 3 (.string ⟨#[]⟩)) 4 (.int .i64 0)) 5 (.int .i64 0)) 6 (.bool false)) 7 (.string ⟨#[]⟩)) 8 (.float .f64 0)))
    have HZ4 := Lib.hid (offZ (offZ (offZ (offZ (offZ (offZ (offZ (offZ HZ3.out hzx2 1 (.int .i64 0)) hzx2 2 (.slice none 0 0)) hzx2 3 (.string ⟨#[]⟩)) hzx2 4 (.int .i64 0)) hzx2 5 (.int .i64 0)) hzx2 6 (.bool false)) hzx2 7 (.string ⟨#[]⟩)) hzx2 8 (.float .f64 0))
    have HO4 := Lib.hid (Only.setNew (Only.setNew (Only.setNew (Only.setNew (Only.setNew (Only.setNew (Only.setNew (Only.setNew HO3.out hbx 1 (.int .i64 0)) hbx 2 (.slice none 0 0)) hbx 3 (.string ⟨#[]⟩)) hbx 4 (.int .i64 0)) hbx 5 (.int .i64 0)) hbx 6 (.bool false)) hbx 7 (.string ⟨#[]⟩)) hbx 8 (.float .f64 0))
    have HR4 := Lib.hid (show ∃ r' e', RdR ((((((((w3.setCell ⟨bx, 1, none⟩ (.int .i64 0)).setCell ⟨bx, 2, none⟩ (.slice none 0 0)).setCell ⟨bx, 3, none⟩ (.string ⟨#[]⟩)).setCell ⟨bx, 4, none⟩ (.int .i64 0)).setCell ⟨bx, 5, none⟩ (.int .i64 0)).setCell ⟨bx, 6, none⟩ (.bool false)).setCell ⟨bx, 7, none⟩ (.string ⟨#[]⟩)).setCell ⟨bx, 8, none⟩ (.float .f64 0)) g r' e' from by obtain ⟨r', e', h⟩ := HR3.out; exact ⟨r', e', h.offT hon hgx HX3.out (by decide)⟩)
    clear hon x1 x2 x3 x4 x5 x6 x7 x8 xf xl HX3 HZ3 HO3 HR3 
    generalize ((((((((w3.setCell ⟨bx, 1, none⟩ (.int .i64 0)).setCell ⟨bx, 2, none⟩ (.slice none 0 0)).setCell ⟨bx, 3, none⟩ (.string ⟨#[]⟩)).setCell ⟨bx, 4, none⟩ (.int .i64 0)).setCell ⟨bx, 5, none⟩ (.int .i64 0)).setCell ⟨bx, 6, none⟩ (.bool false)).setCell ⟨bx, 7, none⟩ (.string ⟨#[]⟩)).setCell ⟨bx, 8, none⟩ (.float .f64 0)) = w4 at *
    have v0 := (heap_at HZ4.out 0).trans (rfl : _ = some (Value.string ⟨#[]⟩))
    have v1 := (heap_at HZ4.out 1).trans (rfl : _ = some (Value.int .i64 0))
    have v2 := (heap_at HZ4.out 2).trans (rfl : _ = some (Value.slice none 0 0))
    have v3 := (heap_at HZ4.out 3).trans (rfl : _ = some (Value.string ⟨#[]⟩))
    have v4 := (heap_at HZ4.out 4).trans (rfl : _ = some (Value.int .i64 0))
    have v5 := (heap_at HZ4.out 5).trans (rfl : _ = some (Value.int .i64 0))
    have v6 := (heap_at HZ4.out 6).trans (rfl : _ = some (Value.bool false))
    have v7 := (heap_at HZ4.out 7).trans (rfl : _ = some (Value.string ⟨#[]⟩))
    have v8 := (heap_at HZ4.out 8).trans (rfl : _ = some (Value.float .f64 0))
    have x0 := (heap_at HX4.out 0).trans (rfl : _ = some (Value.string nm))
    have x1 := (heap_at HX4.out 1).trans (rfl : _ = some (Value.int .i64 0))
    have x2 := (heap_at HX4.out 2).trans (rfl : _ = some (Value.slice none 0 0))
    have x3 := (heap_at HX4.out 3).trans (rfl : _ = some (Value.string ⟨#[]⟩))
    have x4 := (heap_at HX4.out 4).trans (rfl : _ = some (Value.int .i64 0))
    have x5 := (heap_at HX4.out 5).trans (rfl : _ = some (Value.int .i64 0))
    have x6 := (heap_at HX4.out 6).trans (rfl : _ = some (Value.bool false))
    have x7 := (heap_at HX4.out 7).trans (rfl : _ = some (Value.string ⟨#[]⟩))
    have x8 := (heap_at HX4.out 8).trans (rfl : _ = some (Value.float .f64 0))
    have vf := heap_free HZ4.out
    have xf := heap_free HX4.out
    have vl : w.heap.size < w4.heap.size := heap_ltZ HZ4.out
    have xl : bx < w4.heap.size := heap_ltZ HX4.out
    go_wp2
    exact bodyPost_ret (v := .tuple #[.agg #[.string nm, .int .i64 0, .slice none 0 0, .string ⟨#[]⟩, .int .i64 0, .int .i64 0, .bool false, .string ⟨#[]⟩, .float .f64 0], .int .i64 er]) (by simp [results, Tryz.results148, go_sem, v0, v1, v2, v3, v4, v5, v6, v7, v8, vl]) rfl (ElP.err ⟨_, _, _, _, _, _, vZero, rfl⟩ HR4.out HO4.out HZ4.out (by decide) (Nat.le_refl _) hgz.symm ((((((((((Only.refl w.heap.size w4).set 0 _).set 1 _).set 2 _).set 3 _).set 4 _).set 5 _).set 6 _).set 7 _).set 8 _))
  · skip
    obtain ⟨A, c, rfl, hn, hrx, ho3⟩ := h3
    have hszx := heap_ltZ HX2.out
    have HX3 := Lib.hid (keepZ HX2.out ho3 hxg)
    have HZ3 := Lib.hid (keepZ HZ2.out ho3 hgz)
    have HO3 := Lib.hid (HO2.out.trans ho3)
    clear HX2 HZ2 HO2 HR2 
    dsimp only at hrx hn
    have HR3 := Lib.hid hrx
    have HN3 := Lib.hid (show ExS (fun b => bx < b) w3 6 A c x from hn.move (keptMore fun b hb => by omega) (Nat.le_refl _))
    clear hrx ho3 hn hszx
    have x1 := (heap_at HX3.out 1).trans (rfl : _ = some (Value.int .i64 0))
    have x2 := (heap_at HX3.out 2).trans (rfl : _ = some (Value.slice none 0 0))
    have x3 := (heap_at HX3.out 3).trans (rfl : _ = some (Value.string ⟨#[]⟩))
    have x4 := (heap_at HX3.out 4).trans (rfl : _ = some (Value.int .i64 0))
    have x5 := (heap_at HX3.out 5).trans (rfl : _ = some (Value.int .i64 0))
    have x6 := (heap_at HX3.out 6).trans (rfl : _ = some (Value.bool false))
    have x7 := (heap_at HX3.out 7).trans (rfl : _ = some (Value.string ⟨#[]⟩))
    have x8 := (heap_at HX3.out 8).trans (rfl : _ = some (Value.float .f64 0))
    have xf := heap_free HX3.out
    have xl : bx < w3.heap.size := heap_ltZ HX3.out
    go_upto_region 4 with fail
    have hon : Only bx w3 ((((((((w3.setCell ⟨bx, 1, none⟩ (.int .i64 x.op)).setCell ⟨bx, 2, none⟩ (.slice A x.kids.length c)).setCell ⟨bx, 3, none⟩ (.string x.name)).setCell ⟨bx, 4, none⟩ (.int .i64 x.val.k)).setCell ⟨bx, 5, none⟩ (.int .i64 x.val.i)).setCell ⟨bx, 6, none⟩ (.bool x.val.b)).setCell ⟨bx, 7, none⟩ (.string x.val.s)).setCell ⟨bx, 8, none⟩ (.float .f64 x.val.n)) := (Only.set (Only.set (Only.set (Only.set (Only.set (Only.set (Only.set (Only.set (Only.refl bx w3) 1 (.int .i64 x.op)) 2 (.slice A x.kids.length c)) 3 (.string x.name)) 4 (.int .i64 x.val.k)) 5 (.int .i64 x.val.i)) 6 (.bool x.val.b)) 7 (.string x.val.s)) 8 (.float .f64 x.val.n))
    have HX4 := Lib.hid (show ((((((((w3.setCell ⟨bx, 1, none⟩ (.int .i64 x.op)).setCell ⟨bx, 2, none⟩ (.slice A x.kids.length c)).setCell ⟨bx, 3, none⟩ (.string x.name)).setCell ⟨bx, 4, none⟩ (.int .i64 x.val.k)).setCell ⟨bx, 5, none⟩ (.int .i64 x.val.i)).setCell ⟨bx, 6, none⟩ (.bool x.val.b)).setCell ⟨bx, 7, none⟩ (.string x.val.s)).setCell ⟨bx, 8, none⟩ (.float .f64 x.val.n)).heap[bx]? = some (.cells #[.string nm, .int .i64 x.op, .slice A x.kids.length c, .string x.name, .int .i64 x.val.k, .int .i64 x.val.i, .bool x.val.b, .string x.val.s, .float .f64 x.val.n] 65 (0, 0)) from (setZ (setZ (setZ (setZ (setZ (setZ (setZ (setZ HX3.out 1 (.int .i64 x.op)) 2 (.slice A x.kids.length c)) 3 (.string x.name)) 4 (.int .i64 x.val.k)) 5 (.int .i64 x.val.i)) 6 (.bool x.val.b)) 7 (.string x.val.s)) 8 (.float .f64 x.val.n)))
    have HZ4 := Lib.hid (offZ (offZ (offZ (offZ (offZ (offZ (offZ (offZ HZ3.out hzx2 1 (.int .i64 x.op)) hzx2 2 (.slice A x.kids.length c)) hzx2 3 (.string x.name)) hzx2 4 (.int .i64 x.val.k)) hzx2 5 (.int .i64 x.val.i)) hzx2 6 (.bool x.val.b)) hzx2 7 (.string x.val.s)) hzx2 8 (.float .f64 x.val.n))
    have HO4 := Lib.hid (Only.setNew (Only.setNew (Only.setNew (Only.setNew (Only.setNew (Only.setNew (Only.setNew (Only.setNew HO3.out hbx 1 (.int .i64 x.op)) hbx 2 (.slice A x.kids.length c)) hbx 3 (.string x.name)) hbx 4 (.int .i64 x.val.k)) hbx 5 (.int .i64 x.val.i)) hbx 6 (.bool x.val.b)) hbx 7 (.string x.val.s)) hbx 8 (.float .f64 x.val.n))
    have HR4 := Lib.hid (HR3.out.offT hon hgx HX3.out (by decide))
    have HN4 := Lib.hid (ExS.move (keptOnly hon (fun b hb => by omega)) hon.size HN3.out)
    clear hon x1 x2 x3 x4 x5 x6 x7 x8 xf xl HX3 HZ3 HO3 HR3 HN3
    generalize ((((((((w3.setCell ⟨bx, 1, none⟩ (.int .i64 x.op)).setCell ⟨bx, 2, none⟩ (.slice A x.kids.length c)).setCell ⟨bx, 3, none⟩ (.string x.name)).setCell ⟨bx, 4, none⟩ (.int .i64 x.val.k)).setCell ⟨bx, 5, none⟩ (.int .i64 x.val.i)).setCell ⟨bx, 6, none⟩ (.bool x.val.b)).setCell ⟨bx, 7, none⟩ (.string x.val.s)).setCell ⟨bx, 8, none⟩ (.float .f64 x.val.n)) = w4 at *
    have v0 := (heap_at HZ4.out 0).trans (rfl : _ = some (Value.string ⟨#[]⟩))
    have v1 := (heap_at HZ4.out 1).trans (rfl : _ = some (Value.int .i64 0))
    have v2 := (heap_at HZ4.out 2).trans (rfl : _ = some (Value.slice none 0 0))
    have v3 := (heap_at HZ4.out 3).trans (rfl : _ = some (Value.string ⟨#[]⟩))
    have v4 := (heap_at HZ4.out 4).trans (rfl : _ = some (Value.int .i64 0))
    have v5 := (heap_at HZ4.out 5).trans (rfl : _ = some (Value.int .i64 0))
    have v6 := (heap_at HZ4.out 6).trans (rfl : _ = some (Value.bool false))
    have v7 := (heap_at HZ4.out 7).trans (rfl : _ = some (Value.string ⟨#[]⟩))
    have v8 := (heap_at HZ4.out 8).trans (rfl : _ = some (Value.float .f64 0))
    have x0 := (heap_at HX4.out 0).trans (rfl : _ = some (Value.string nm))
    have x1 := (heap_at HX4.out 1).trans (rfl : _ = some (Value.int .i64 x.op))
    have x2 := (heap_at HX4.out 2).trans (rfl : _ = some (Value.slice A x.kids.length c))
    have x3 := (heap_at HX4.out 3).trans (rfl : _ = some (Value.string x.name))
    have x4 := (heap_at HX4.out 4).trans (rfl : _ = some (Value.int .i64 x.val.k))
    have x5 := (heap_at HX4.out 5).trans (rfl : _ = some (Value.int .i64 x.val.i))
    have x6 := (heap_at HX4.out 6).trans (rfl : _ = some (Value.bool x.val.b))
    have x7 := (heap_at HX4.out 7).trans (rfl : _ = some (Value.string x.val.s))
    have x8 := (heap_at HX4.out 8).trans (rfl : _ = some (Value.float .f64 x.val.n))
    have vf := heap_free HZ4.out
    have xf := heap_free HX4.out
    have vl : w.heap.size < w4.heap.size := heap_ltZ HZ4.out
    have xl : bx < w4.heap.size := heap_ltZ HX4.out
    go_wp2
    exact bodyPost_ret (v := .tuple #[.agg #[.string nm, .int .i64 x.op, .slice A x.kids.length c, .string x.name, .int .i64 x.val.k, .int .i64 x.val.i, .bool x.val.b, .string x.val.s, .float .f64 x.val.n], .int .i64 0]) (by simp [results, Tryz.results148, go_sem, v0, v1, v2, v3, v4, v5, v6, v7, v8, vl]) rfl (ElP.fin mvkEff ⟨⟨nm, x⟩, A, c⟩ (show ExS (fun b => w.heap.size < b) w4 6 A c x from ExS.move (keptMore fun b hb => by omega) (Nat.le_refl _) HN4.out) HR4.out HO4.out HZ4.out (by decide) (Nat.le_refl _) hgz.symm ((((((((((Only.refl w.heap.size w4).set 0 _).set 1 _).set 2 _).set 3 _).set 4 _).set 5 _).set 6 _).set 7 _).set 8 _))
end Go.Proofs.YthgdnpcfdgimlabGreat

/- Layer 6: a contract is read by the program, unchecked. (Made by gen/gencgetf.py.) -/
namespace Go.Proofs.YthgdnpcfdgimlabGreat
open Go.RowKit
set_option linter.unusedVariables false
set_option linter.unusedSimpArgs false
set_option maxRecDepth 20000

structure CtX where
  c : Ctr
  FA : Option Addr
  fc : Nat
  SA : Option Addr
  sc : Nat
  MA : Option Addr
  mc : Nat
def CtX.cells (q : CtX) : List Value := [.string q.c.name, .slice q.FA q.c.fs.length q.fc, .slice q.SA q.c.ss.length q.sc, .slice q.MA q.c.ms.length q.mc]
def CtX.ok (S : Nat → Prop) (w : World) (q : CtX) : Prop := FldN S w q.FA q.fc q.c.fs ∧ StgN S w q.SA q.sc q.c.ss ∧ MvN S w q.MA q.mc q.c.ms
def BadCt (u : Value) : Prop := ∃ nm A n c SA sn sc MA mn mc, u = .agg #[.string nm, .slice A n c, .slice SA sn sc, .slice MA mn mc]
theorem mvkCt (S T : Nat → Prop) (w w' : World) (q : CtX) (h : Kept S T w w') (hz : w.heap.size ≤ w'.heap.size) (hq : CtX.ok S w q) : CtX.ok T w' q := ⟨FldN.move h hz hq.1, StgN.move h hz hq.2.1, MvN.move h hz hq.2.2⟩
set_option maxHeartbeats 8000000 in
theorem getContract_walk (g : Nat) (rest r1 : List UInt8) (e0 e1 : Int) (nm : ByteArray) (LF : Except Int (List Fld × List UInt8)) (LS : List UInt8 → Except Int (List Stg × List UInt8)) (LM : List UInt8 → Except Int (List Mv × List UInt8)) (w : World) (hr : RdR w g rest e0)
    (q1 : ∀ W, RdR W g rest e0 → Calls Tryz.prog 100 #[.pointer (some ⟨g, 0, none⟩)] W (Did g (.string nm) r1 e1 W))
    (q2 : ∀ W, RdR W g r1 e1 → Calls Tryz.prog 101 #[.pointer (some ⟨g, 0, none⟩), .int .i64 6, .func (Fn.func 102) #[] #[]] W (LsR g FldN LF W))
    (q3 : ∀ W l r, LF = .ok (l, r) → RdR W g r 0 → Calls Tryz.prog 103 #[.pointer (some ⟨g, 0, none⟩), .int .i64 6, .func (Fn.func 104) #[] #[]] W (LsR g StgN (LS r) W))
    (q4 : ∀ W l r l2 r2, LF = .ok (l, r) → LS r = .ok (l2, r2) → RdR W g r2 0 → Calls Tryz.prog 105 #[.pointer (some ⟨g, 0, none⟩), .int .i64 8, .func (Fn.func 106) #[] #[]] W (LsR g MvN (LM r2) W))
    (hne : ∀ er, LF = .error er → er ≠ 0) (hne2 : ∀ r er, LS r = .error er → er ≠ 0) :
    Calls Tryz.prog 59 #[.pointer (some ⟨g, 0, none⟩)] w (ElP BadCt g (fun q => .agg (CtX.cells q).toArray) CtX.c (fun S w q => CtX.ok S w q) (gLists nm LF LS LM) w) := by
  have hsf := fun (w : World) (a : Addr) (m : Mode) (b : Nat) => run_store Tryz.prog w a (.float .f64 b) m rfl
  have Q1 := Lib.hid q1
  have Q2 := Lib.hid q2
  have Q3 := Lib.hid q3
  have Q4 := Lib.hid q4
  clear q1 q2 q3 q4
  have HNE := Lib.hid hne
  have HNE2 := Lib.hid hne2
  clear hne hne2
  have hgw := hr.lt
  have hgz : w.heap.size ≠ g := by omega
  have HR0 := Lib.hid (hr.below (alloc1 w (.cells #[.string ⟨#[]⟩, .slice none 0 0, .slice none 0 0, .slice none 0 0] 26)))
  have HZ0 := Lib.hid (heap_alloc_new w (.cells #[.string ⟨#[]⟩, .slice none 0 0, .slice none 0 0, .slice none 0 0] 26))
  have HO0 := Lib.hid (Only.below (Only.refl g w) (alloc1 w (.cells #[.string ⟨#[]⟩, .slice none 0 0, .slice none 0 0, .slice none 0 0] 26)))
  clear hr
  go_enter Tryz.func59, Tryz.ntmps59
  go_upto_region 1 with fail
  generalize w.alloc (.cells #[.string ⟨#[]⟩, .slice none 0 0, .slice none 0 0, .slice none 0 0] 26) = w0 at *
  go_wp2_with fail
  refine (Q1.out _ HR0.out).mono ?_
  rintro _ w1 ⟨rfl, hr1, ho1⟩
  have HZ1 := Lib.hid (keepZ HZ0.out ho1 hgz)
  have HO1 := Lib.hid (HO0.out.trans ho1)
  have HR1 := Lib.hid hr1
  clear hr1 ho1 HR0 HZ0 HO0
  have hzx : w.heap.size < w1.heap.size := heap_ltZ HZ1.out
  go_upto_region 2 with fail
  have HX2 := Lib.hid (heap_alloc_new w1 (.cells #[.string nm, .slice none 0 0, .slice none 0 0, .slice none 0 0] 26))
  have HZ2 := Lib.hid (belowZ HZ1.out (alloc1 w1 (.cells #[.string nm, .slice none 0 0, .slice none 0 0, .slice none 0 0] 26)))
  have HO2 := Lib.hid (Only.below HO1.out (alloc1 w1 (.cells #[.string nm, .slice none 0 0, .slice none 0 0, .slice none 0 0] 26)))
  have HR2 := Lib.hid (HR1.out.below (alloc1 w1 (.cells #[.string nm, .slice none 0 0, .slice none 0 0, .slice none 0 0] 26)))
  clear HZ1 HO1 HR1
  generalize w1.alloc (.cells #[.string nm, .slice none 0 0, .slice none 0 0, .slice none 0 0] 26) = w2 at *
  generalize w1.heap.size = bx at *
  have hgx : g ≠ bx := by omega
  have hxg : bx ≠ g := by omega
  have hzx2 : w.heap.size ≠ bx := by omega
  have hbx : w.heap.size ≤ bx := by omega
  go_wp2_with fail
  refine (Q2.out _ HR2.out).mono ?_
  rintro e w3 h3
  clear Q1 Q2
  rcases LF with er | ⟨fs, rf⟩
  · skip
    obtain ⟨rfl, hrx, ho3⟩ := h3
    have HX3 := Lib.hid (keepZ HX2.out ho3 hxg)
    have HZ3 := Lib.hid (keepZ HZ2.out ho3 hgz)
    have HO3 := Lib.hid (HO2.out.trans ho3)
    clear HX2 HZ2 HO2 HR2 
    have HR3 := Lib.hid hrx
    have herb : (er != 0) = true := by simpa using HNE.out er rfl
    clear hrx ho3
    have x1 := (heap_at HX3.out 1).trans (rfl : _ = some (Value.slice none 0 0))
    have xf := heap_free HX3.out
    have xl : bx < w3.heap.size := heap_ltZ HX3.out
    go_upto_region 4 with fail
    have hon : Only bx w3 (w3.setCell ⟨bx, 1, none⟩ (.slice none 0 0)) := (Only.set (Only.refl bx w3) 1 (.slice none 0 0))
    have HX4 := Lib.hid (show (w3.setCell ⟨bx, 1, none⟩ (.slice none 0 0)).heap[bx]? = some (.cells #[.string nm, .slice none 0 0, .slice none 0 0, .slice none 0 0] 26 (0, 0)) from (setZ HX3.out 1 (.slice none 0 0)))
    have HZ4 := Lib.hid (offZ HZ3.out hzx2 1 (.slice none 0 0))
    have HO4 := Lib.hid (Only.setNew HO3.out hbx 1 (.slice none 0 0))
    have HR4 := Lib.hid (show ∃ r' e', RdR (w3.setCell ⟨bx, 1, none⟩ (.slice none 0 0)) g r' e' from by obtain ⟨r', e', h⟩ := HR3.out; exact ⟨r', e', h.offT hon hgx HX3.out (by decide)⟩)
    clear hon x1 xf xl HX3 HZ3 HO3 HR3 
    generalize (w3.setCell ⟨bx, 1, none⟩ (.slice none 0 0)) = w4 at *
    have v0 := (heap_at HZ4.out 0).trans (rfl : _ = some (Value.string ⟨#[]⟩))
    have v1 := (heap_at HZ4.out 1).trans (rfl : _ = some (Value.slice none 0 0))
    have v2 := (heap_at HZ4.out 2).trans (rfl : _ = some (Value.slice none 0 0))
    have v3 := (heap_at HZ4.out 3).trans (rfl : _ = some (Value.slice none 0 0))
    have x0 := (heap_at HX4.out 0).trans (rfl : _ = some (Value.string nm))
    have x1 := (heap_at HX4.out 1).trans (rfl : _ = some (Value.slice none 0 0))
    have x2 := (heap_at HX4.out 2).trans (rfl : _ = some (Value.slice none 0 0))
    have x3 := (heap_at HX4.out 3).trans (rfl : _ = some (Value.slice none 0 0))
    have vf := heap_free HZ4.out
    have xf := heap_free HX4.out
    have vl : w.heap.size < w4.heap.size := heap_ltZ HZ4.out
    have xl : bx < w4.heap.size := heap_ltZ HX4.out
    go_wp2
    exact bodyPost_ret (v := .tuple #[.agg #[.string nm, .slice none 0 0, .slice none 0 0, .slice none 0 0], .int .i64 er]) (by simp [results, Tryz.results59, go_sem, v0, v1, v2, v3, vl]) rfl (ElP.err ⟨_, _, _, _, _, _, _, _, _, _, rfl⟩ HR4.out HO4.out HZ4.out (by decide) (Nat.le_refl _) hgz.symm (((((Only.refl w.heap.size w4).set 0 _).set 1 _).set 2 _).set 3 _))
  · skip
    obtain ⟨FA, fc, rfl, hn, hrx, ho3⟩ := h3
    have hszx := heap_ltZ HX2.out
    have HX3 := Lib.hid (keepZ HX2.out ho3 hxg)
    have HZ3 := Lib.hid (keepZ HZ2.out ho3 hgz)
    have HO3 := Lib.hid (HO2.out.trans ho3)
    clear HX2 HZ2 HO2 HR2 
    dsimp only at hrx hn
    have HR3 := Lib.hid hrx
    have HF3 := Lib.hid (show FldN (fun b => bx < b) w3 FA fc fs from FldN.move (keptMore fun b hb => by omega) (Nat.le_refl _) hn)
    clear hrx ho3 hn hszx
    have h00 : ((0 : Int) != 0) = false := rfl
    have x1 := (heap_at HX3.out 1).trans (rfl : _ = some (Value.slice none 0 0))
    have xf := heap_free HX3.out
    have xl : bx < w3.heap.size := heap_ltZ HX3.out
    go_upto_region 4 with fail
    have hon : Only bx w3 (w3.setCell ⟨bx, 1, none⟩ (.slice FA fs.length fc)) := (Only.set (Only.refl bx w3) 1 (.slice FA fs.length fc))
    have HX4 := Lib.hid (show (w3.setCell ⟨bx, 1, none⟩ (.slice FA fs.length fc)).heap[bx]? = some (.cells #[.string nm, .slice FA fs.length fc, .slice none 0 0, .slice none 0 0] 26 (0, 0)) from (setZ HX3.out 1 (.slice FA fs.length fc)))
    have HZ4 := Lib.hid (offZ HZ3.out hzx2 1 (.slice FA fs.length fc))
    have HO4 := Lib.hid (Only.setNew HO3.out hbx 1 (.slice FA fs.length fc))
    have HR4 := Lib.hid (HR3.out.offT hon hgx HX3.out (by decide))
    have HF4 := Lib.hid (FldN.move (keptOnly hon (fun b hb => by omega)) hon.size HF3.out)
    clear hon x1 xf xl HX3 HZ3 HO3 HR3 HF3
    generalize (w3.setCell ⟨bx, 1, none⟩ (.slice FA fs.length fc)) = w4 at *
    have hcall := Q3.out w4 fs rf rfl HR4.out
    clear Q3
    rcases hV : LS rf with er | ⟨ss, rs⟩
    · skip
      rw [hV] at hcall
      have HOKF := Lib.hid (show gLists nm (.ok (fs, rf)) LS LM = .error er from by unfold gLists; simp only [hV])
      have herb : (er != 0) = true := by simpa using HNE2.out rf er hV
      have HC := Lib.hid hcall
      clear hcall hV
      go_wp2_with fail
      refine HC.out.mono ?_
      rintro e w5 h5
      obtain ⟨rfl, hrx, ho5⟩ := h5
      have HX5 := Lib.hid (keepZ HX4.out ho5 hxg)
      have HZ5 := Lib.hid (keepZ HZ4.out ho5 hgz)
      have HO5 := Lib.hid (HO4.out.trans ho5)
      have HF5 := Lib.hid (FldN.move (keptOnly ho5 (fun b hb => by omega)) ho5.size HF4.out)
      clear HX4 HZ4 HO4 HR4 HF4
      have HR5 := Lib.hid hrx
      clear hrx ho5 HC
      have x2 := (heap_at HX5.out 2).trans (rfl : _ = some (Value.slice none 0 0))
      have xf := heap_free HX5.out
      have xl : bx < w5.heap.size := heap_ltZ HX5.out
      go_upto_region 7 with fail
      have hon : Only bx w5 (w5.setCell ⟨bx, 2, none⟩ (.slice none 0 0)) := (Only.set (Only.refl bx w5) 2 (.slice none 0 0))
      have HX6 := Lib.hid (show (w5.setCell ⟨bx, 2, none⟩ (.slice none 0 0)).heap[bx]? = some (.cells #[.string nm, .slice FA fs.length fc, .slice none 0 0, .slice none 0 0] 26 (0, 0)) from (setZ HX5.out 2 (.slice none 0 0)))
      have HZ6 := Lib.hid (offZ HZ5.out hzx2 2 (.slice none 0 0))
      have HO6 := Lib.hid (Only.setNew HO5.out hbx 2 (.slice none 0 0))
      have HR6 := Lib.hid (show ∃ r' e', RdR (w5.setCell ⟨bx, 2, none⟩ (.slice none 0 0)) g r' e' from by obtain ⟨r', e', h⟩ := HR5.out; exact ⟨r', e', h.offT hon hgx HX5.out (by decide)⟩)
      have HF6 := Lib.hid (FldN.move (keptOnly hon (fun b hb => by omega)) hon.size HF5.out)
      clear hon x2 xf xl HX5 HZ5 HO5 HR5 HF5
      generalize (w5.setCell ⟨bx, 2, none⟩ (.slice none 0 0)) = w6 at *
      have v0 := (heap_at HZ6.out 0).trans (rfl : _ = some (Value.string ⟨#[]⟩))
      have v1 := (heap_at HZ6.out 1).trans (rfl : _ = some (Value.slice none 0 0))
      have v2 := (heap_at HZ6.out 2).trans (rfl : _ = some (Value.slice none 0 0))
      have v3 := (heap_at HZ6.out 3).trans (rfl : _ = some (Value.slice none 0 0))
      have x0 := (heap_at HX6.out 0).trans (rfl : _ = some (Value.string nm))
      have x1 := (heap_at HX6.out 1).trans (rfl : _ = some (Value.slice FA fs.length fc))
      have x2 := (heap_at HX6.out 2).trans (rfl : _ = some (Value.slice none 0 0))
      have x3 := (heap_at HX6.out 3).trans (rfl : _ = some (Value.slice none 0 0))
      have vf := heap_free HZ6.out
      have xf := heap_free HX6.out
      have vl : w.heap.size < w6.heap.size := heap_ltZ HZ6.out
      have xl : bx < w6.heap.size := heap_ltZ HX6.out
      go_wp2
      exact bodyPost_ret (v := .tuple #[.agg #[.string nm, .slice FA fs.length fc, .slice none 0 0, .slice none 0 0], .int .i64 er]) (by simp [results, Tryz.results59, go_sem, v0, v1, v2, v3, vl]) rfl (by rw [HOKF.out]; exact ElP.err ⟨_, _, _, _, _, _, _, _, _, _, rfl⟩ HR6.out HO6.out HZ6.out (by decide) (Nat.le_refl _) hgz.symm (((((Only.refl w.heap.size w6).set 0 _).set 1 _).set 2 _).set 3 _))
    · skip
      have hcall2 := fun W l2 r2 hl2 hR => Q4.out W fs rf l2 r2 rfl hl2 hR
      rw [hV] at hcall
      have HV := Lib.hid hV
      have HC := Lib.hid hcall
      clear hcall hV Q4
      have Q4 := Lib.hid hcall2
      clear hcall2
      go_wp2_with fail
      refine HC.out.mono ?_
      rintro e w5 h5
      obtain ⟨SA, sc, rfl, hn, hrx, ho5⟩ := h5
      have hszx := heap_ltZ HX4.out
      have HX5 := Lib.hid (keepZ HX4.out ho5 hxg)
      have HZ5 := Lib.hid (keepZ HZ4.out ho5 hgz)
      have HO5 := Lib.hid (HO4.out.trans ho5)
      have HF5 := Lib.hid (FldN.move (keptOnly ho5 (fun b hb => by omega)) ho5.size HF4.out)
      clear HX4 HZ4 HO4 HR4 HF4
      dsimp only at hrx hn
      have HR5 := Lib.hid hrx
      have HS5 := Lib.hid (show StgN (fun b => bx < b) w5 SA sc ss from StgN.move (keptMore fun b hb => by omega) (Nat.le_refl _) hn)
      clear hrx ho5 hn hszx HC
      have x2 := (heap_at HX5.out 2).trans (rfl : _ = some (Value.slice none 0 0))
      have xf := heap_free HX5.out
      have xl : bx < w5.heap.size := heap_ltZ HX5.out
      go_upto_region 7 with fail
      have hon : Only bx w5 (w5.setCell ⟨bx, 2, none⟩ (.slice SA ss.length sc)) := (Only.set (Only.refl bx w5) 2 (.slice SA ss.length sc))
      have HX6 := Lib.hid (show (w5.setCell ⟨bx, 2, none⟩ (.slice SA ss.length sc)).heap[bx]? = some (.cells #[.string nm, .slice FA fs.length fc, .slice SA ss.length sc, .slice none 0 0] 26 (0, 0)) from (setZ HX5.out 2 (.slice SA ss.length sc)))
      have HZ6 := Lib.hid (offZ HZ5.out hzx2 2 (.slice SA ss.length sc))
      have HO6 := Lib.hid (Only.setNew HO5.out hbx 2 (.slice SA ss.length sc))
      have HR6 := Lib.hid (HR5.out.offT hon hgx HX5.out (by decide))
      have HF6 := Lib.hid (FldN.move (keptOnly hon (fun b hb => by omega)) hon.size HF5.out)
      have HS6 := Lib.hid (StgN.move (keptOnly hon (fun b hb => by omega)) hon.size HS5.out)
      clear hon x2 xf xl HX5 HZ5 HO5 HR5 HF5 HS5
      generalize (w5.setCell ⟨bx, 2, none⟩ (.slice SA ss.length sc)) = w6 at *
      have hcall := Q4.out w6 ss rs HV.out HR6.out
      clear Q4
      rcases hV : LM rs with er | ⟨ms, rm⟩
      · skip
        rw [hV] at hcall
        have HOKF := Lib.hid (show gLists nm (.ok (fs, rf)) LS LM = .error er from by unfold gLists; simp only [HV.out, hV])
        have HC := Lib.hid hcall
        clear hcall hV
        go_wp2_with fail
        refine HC.out.mono ?_
        rintro e w7 h7
        obtain ⟨rfl, hrx, ho7⟩ := h7
        have HX7 := Lib.hid (keepZ HX6.out ho7 hxg)
        have HZ7 := Lib.hid (keepZ HZ6.out ho7 hgz)
        have HO7 := Lib.hid (HO6.out.trans ho7)
        have HF7 := Lib.hid (FldN.move (keptOnly ho7 (fun b hb => by omega)) ho7.size HF6.out)
        have HS7 := Lib.hid (StgN.move (keptOnly ho7 (fun b hb => by omega)) ho7.size HS6.out)
        clear HX6 HZ6 HO6 HR6 HF6 HS6
        have HR7 := Lib.hid hrx
        clear hrx ho7 HC
        have x3 := (heap_at HX7.out 3).trans (rfl : _ = some (Value.slice none 0 0))
        have xf := heap_free HX7.out
        have xl : bx < w7.heap.size := heap_ltZ HX7.out
        go_upto_region 10 with fail
        have hon : Only bx w7 (w7.setCell ⟨bx, 3, none⟩ (.slice none 0 0)) := (Only.set (Only.refl bx w7) 3 (.slice none 0 0))
        have HX8 := Lib.hid (show (w7.setCell ⟨bx, 3, none⟩ (.slice none 0 0)).heap[bx]? = some (.cells #[.string nm, .slice FA fs.length fc, .slice SA ss.length sc, .slice none 0 0] 26 (0, 0)) from (setZ HX7.out 3 (.slice none 0 0)))
        have HZ8 := Lib.hid (offZ HZ7.out hzx2 3 (.slice none 0 0))
        have HO8 := Lib.hid (Only.setNew HO7.out hbx 3 (.slice none 0 0))
        have HR8 := Lib.hid (show ∃ r' e', RdR (w7.setCell ⟨bx, 3, none⟩ (.slice none 0 0)) g r' e' from by obtain ⟨r', e', h⟩ := HR7.out; exact ⟨r', e', h.offT hon hgx HX7.out (by decide)⟩)
        have HF8 := Lib.hid (FldN.move (keptOnly hon (fun b hb => by omega)) hon.size HF7.out)
        have HS8 := Lib.hid (StgN.move (keptOnly hon (fun b hb => by omega)) hon.size HS7.out)
        clear hon x3 xf xl HX7 HZ7 HO7 HR7 HF7 HS7
        generalize (w7.setCell ⟨bx, 3, none⟩ (.slice none 0 0)) = w8 at *
        have v0 := (heap_at HZ8.out 0).trans (rfl : _ = some (Value.string ⟨#[]⟩))
        have v1 := (heap_at HZ8.out 1).trans (rfl : _ = some (Value.slice none 0 0))
        have v2 := (heap_at HZ8.out 2).trans (rfl : _ = some (Value.slice none 0 0))
        have v3 := (heap_at HZ8.out 3).trans (rfl : _ = some (Value.slice none 0 0))
        have x0 := (heap_at HX8.out 0).trans (rfl : _ = some (Value.string nm))
        have x1 := (heap_at HX8.out 1).trans (rfl : _ = some (Value.slice FA fs.length fc))
        have x2 := (heap_at HX8.out 2).trans (rfl : _ = some (Value.slice SA ss.length sc))
        have x3 := (heap_at HX8.out 3).trans (rfl : _ = some (Value.slice none 0 0))
        have vf := heap_free HZ8.out
        have xf := heap_free HX8.out
        have vl : w.heap.size < w8.heap.size := heap_ltZ HZ8.out
        have xl : bx < w8.heap.size := heap_ltZ HX8.out
        go_wp2
        exact bodyPost_ret (v := .tuple #[.agg #[.string nm, .slice FA fs.length fc, .slice SA ss.length sc, .slice none 0 0], .int .i64 er]) (by simp [results, Tryz.results59, go_sem, v0, v1, v2, v3, vl]) rfl (by rw [HOKF.out]; exact ElP.err ⟨_, _, _, _, _, _, _, _, _, _, rfl⟩ HR8.out HO8.out HZ8.out (by decide) (Nat.le_refl _) hgz.symm (((((Only.refl w.heap.size w8).set 0 _).set 1 _).set 2 _).set 3 _))
      · skip
        rw [hV] at hcall
        have HOKF := Lib.hid (show gLists nm (.ok (fs, rf)) LS LM = .ok (⟨nm, fs, ss, ms⟩, rm) from by unfold gLists; simp only [HV.out, hV])
        have HC := Lib.hid hcall
        clear hcall hV
        go_wp2_with fail
        refine HC.out.mono ?_
        rintro e w7 h7
        obtain ⟨MA, mc, rfl, hn, hrx, ho7⟩ := h7
        have hszx := heap_ltZ HX6.out
        have HX7 := Lib.hid (keepZ HX6.out ho7 hxg)
        have HZ7 := Lib.hid (keepZ HZ6.out ho7 hgz)
        have HO7 := Lib.hid (HO6.out.trans ho7)
        have HF7 := Lib.hid (FldN.move (keptOnly ho7 (fun b hb => by omega)) ho7.size HF6.out)
        have HS7 := Lib.hid (StgN.move (keptOnly ho7 (fun b hb => by omega)) ho7.size HS6.out)
        clear HX6 HZ6 HO6 HR6 HF6 HS6
        dsimp only at hrx hn
        have HR7 := Lib.hid hrx
        have HM7 := Lib.hid (show MvN (fun b => bx < b) w7 MA mc ms from MvN.move (keptMore fun b hb => by omega) (Nat.le_refl _) hn)
        clear hrx ho7 hn hszx HC
        have x3 := (heap_at HX7.out 3).trans (rfl : _ = some (Value.slice none 0 0))
        have xf := heap_free HX7.out
        have xl : bx < w7.heap.size := heap_ltZ HX7.out
        go_upto_region 10 with fail
        have hon : Only bx w7 (w7.setCell ⟨bx, 3, none⟩ (.slice MA ms.length mc)) := (Only.set (Only.refl bx w7) 3 (.slice MA ms.length mc))
        have HX8 := Lib.hid (show (w7.setCell ⟨bx, 3, none⟩ (.slice MA ms.length mc)).heap[bx]? = some (.cells #[.string nm, .slice FA fs.length fc, .slice SA ss.length sc, .slice MA ms.length mc] 26 (0, 0)) from (setZ HX7.out 3 (.slice MA ms.length mc)))
        have HZ8 := Lib.hid (offZ HZ7.out hzx2 3 (.slice MA ms.length mc))
        have HO8 := Lib.hid (Only.setNew HO7.out hbx 3 (.slice MA ms.length mc))
        have HR8 := Lib.hid (HR7.out.offT hon hgx HX7.out (by decide))
        have HF8 := Lib.hid (FldN.move (keptOnly hon (fun b hb => by omega)) hon.size HF7.out)
        have HS8 := Lib.hid (StgN.move (keptOnly hon (fun b hb => by omega)) hon.size HS7.out)
        have HM8 := Lib.hid (MvN.move (keptOnly hon (fun b hb => by omega)) hon.size HM7.out)
        clear hon x3 xf xl HX7 HZ7 HO7 HR7 HF7 HS7 HM7
        generalize (w7.setCell ⟨bx, 3, none⟩ (.slice MA ms.length mc)) = w8 at *
        have v0 := (heap_at HZ8.out 0).trans (rfl : _ = some (Value.string ⟨#[]⟩))
        have v1 := (heap_at HZ8.out 1).trans (rfl : _ = some (Value.slice none 0 0))
        have v2 := (heap_at HZ8.out 2).trans (rfl : _ = some (Value.slice none 0 0))
        have v3 := (heap_at HZ8.out 3).trans (rfl : _ = some (Value.slice none 0 0))
        have x0 := (heap_at HX8.out 0).trans (rfl : _ = some (Value.string nm))
        have x1 := (heap_at HX8.out 1).trans (rfl : _ = some (Value.slice FA fs.length fc))
        have x2 := (heap_at HX8.out 2).trans (rfl : _ = some (Value.slice SA ss.length sc))
        have x3 := (heap_at HX8.out 3).trans (rfl : _ = some (Value.slice MA ms.length mc))
        have vf := heap_free HZ8.out
        have xf := heap_free HX8.out
        have vl : w.heap.size < w8.heap.size := heap_ltZ HZ8.out
        have xl : bx < w8.heap.size := heap_ltZ HX8.out
        go_wp2
        exact bodyPost_ret (v := .tuple #[.agg #[.string nm, .slice FA fs.length fc, .slice SA ss.length sc, .slice MA ms.length mc], .int .i64 0]) (by simp [results, Tryz.results59, go_sem, v0, v1, v2, v3, vl]) rfl (by rw [HOKF.out]; exact ElP.fin mvkCt ⟨⟨nm, fs, ss, ms⟩, FA, fc, SA, sc, MA, mc⟩ (show FldN (fun b => w.heap.size < b) w8 FA fc fs ∧ StgN (fun b => w.heap.size < b) w8 SA sc ss ∧ MvN (fun b => w.heap.size < b) w8 MA mc ms from ⟨FldN.move (keptMore fun b hb => by omega) (Nat.le_refl _) HF8.out, StgN.move (keptMore fun b hb => by omega) (Nat.le_refl _) HS8.out, MvN.move (keptMore fun b hb => by omega) (Nat.le_refl _) HM8.out⟩) HR8.out HO8.out HZ8.out (by decide) (Nat.le_refl _) hgz.symm (((((Only.refl w.heap.size w8).set 0 _).set 1 _).set 2 _).set 3 _))
end Go.Proofs.YthgdnpcfdgimlabGreat

/- Layer 6: Get, by the program. (Made by gen/gencget.py.) -/
namespace Go.Proofs.YthgdnpcfdgimlabGreat
open Go.RowKit
set_option linter.unusedVariables false
set_option linter.unusedSimpArgs false
set_option maxRecDepth 20000

/-- what Get leaves -/
def CgE (g : Nat) (er : Int) (w : World) (e : Ending) (w' : World) : Prop := e = .returned (.tuple #[.agg #[.string ⟨#[]⟩, .slice none 0 0, .slice none 0 0, .slice none 0 0], .int .i64 er]) ∧ (∃ r' e', RdR w' g r' e') ∧ Only g w w'
def CgO (g : Nat) (x : Ctr × List UInt8) (w : World) (e : Ending) (w' : World) : Prop := ∃ FA fc SA sc MA mc, e = .returned (.tuple #[agC x.1.name FA x.1.fs.length fc SA x.1.ss.length sc MA x.1.ms.length mc, .int .i64 0]) ∧ CtX.ok (fun b => w.heap.size ≤ b) w' ⟨x.1, FA, fc, SA, sc, MA, mc⟩ ∧ RdR w' g x.2 0 ∧ Only g w w'
def CgP (g : Nat) (X : Except Int (Ctr × List UInt8)) (w : World) (e : Ending) (w' : World) : Prop := match X with
  | .error er => CgE g er w e w'
  | .ok x => CgO g x w e w'
theorem CgP.err {g bz : Nat} {er : Int} {w W W' : World} {zs : Array Value} {fr : Nat × Nat} (hr : ∃ r' e', RdR W g r' e') (ho : Only g w W) (hz : W.heap[bz]? = some (.cells zs 26 fr)) (hb : w.heap.size ≤ bz) (hg : g ≠ bz) (hs : Only bz W W') : CgE g er w (.returned (.tuple #[.agg #[.string ⟨#[]⟩, .slice none 0 0, .slice none 0 0, .slice none 0 0], .int .i64 er])) W' := by
  obtain ⟨r', e', hr⟩ := hr
  exact ⟨rfl, ⟨r', e', hr.offT hs hg hz (by decide)⟩, ho.new hs hb⟩
theorem CgP.fin {g bz : Nat} {w W W' : World} {zs : Array Value} {fr : Nat × Nat} (q : CtX) (r : List UInt8) (hok : CtX.ok (fun b => bz < b) W q) (hr : RdR W g r 0) (ho : Only g w W) (hz : W.heap[bz]? = some (.cells zs 26 fr)) (hb : w.heap.size ≤ bz) (hg : g ≠ bz) (hs : Only bz W W') : CgO g (q.c, r) w (.returned (.tuple #[agC q.c.name q.FA q.c.fs.length q.fc q.SA q.c.ss.length q.sc q.MA q.c.ms.length q.mc, .int .i64 0])) W' :=
  ⟨_, _, _, _, _, _, rfl, mvkCt _ _ _ _ q (fun b hb2 hl => ⟨hs.block b hl (by intro e; injection e with e; omega), by omega⟩) hs.size hok, hr.offT hs hg hz (by decide), ho.new hs hb⟩
theorem CtX.ctk {S : Nat → Prop} {w : World} {q : CtX} (h : CtX.ok S w q) : CtK w q.c q.FA q.fc q.SA q.sc q.MA q.mc := ⟨h.1.k, h.2.1.k, h.2.2.k⟩
set_option maxHeartbeats 4000000 in
theorem cGet_walk (g : Nat) (rest : List UInt8) (e0 : Int) (X0 : Except Int (Ctr × List UInt8)) (hX : ∀ er, X0 = .error er → er ≠ 0) (w : World) (hr : RdR w g rest e0)
    (hq : ∀ W, RdR W g rest e0 → Calls Tryz.prog 59 #[.pointer (some ⟨g, 0, none⟩)] W (ElP BadCt g (fun q => .agg (CtX.cells q).toArray) CtX.c (fun S w q => CtX.ok S w q) X0 W)) :
    Calls Tryz.prog 23 #[.pointer (some ⟨g, 0, none⟩)] w (CgP g (okC2 X0) w) := by
  obtain ⟨A, c, hbt, -, -, -, hc0, hc1, hf, hgl⟩ := hr.open
  have hsf := fun (w : World) (a : Addr) (m : Mode) (b : Nat) => run_store Tryz.prog w a (.float .f64 b) m rfl
  have h1 := alloc1 w (.cells #[.string ⟨#[]⟩, .slice none 0 0, .slice none 0 0, .slice none 0 0] 26)
  have h2 := alloc1 (w.alloc (.cells #[.string ⟨#[]⟩, .slice none 0 0, .slice none 0 0, .slice none 0 0] 26)) (.cells #[.slice A rest.length c, .int .i64 e0] 94)
  have hz1 := heap_alloc_new w (.cells #[.string ⟨#[]⟩, .slice none 0 0, .slice none 0 0, .slice none 0 0] 26)
  have hcp := RdR.copy (W := w.alloc (.cells #[.string ⟨#[]⟩, .slice none 0 0, .slice none 0 0, .slice none 0 0] 26)) (e := e0) (Bt.below hbt h1 (Nat.le_refl _)) (w.heap.size + 1) (by simp)
  have hcall := hq _ ((hr.below h1).below h2)
  have HZ1 := Lib.hid (belowZ hz1 h2)
  have HCP := Lib.hid hcp
  obtain ⟨csg, hgc, -⟩ := ((hr.below h1).below h2).cells
  have HGC := Lib.hid hgc
  have HC := Lib.hid hcall
  have HB := Lib.hid (h1.trans (h2.mono (by simp)))
  have hgz : w.heap.size ≠ g := by omega
  have hgB : g < ((w.alloc (.cells #[.string ⟨#[]⟩, .slice none 0 0, .slice none 0 0, .slice none 0 0] 26)).alloc (.cells #[.slice A rest.length c, .int .i64 e0] 94)).heap.size := ((hr.below h1).below h2).lt
  have hHX := Lib.hid hX
  clear hcall hq hr hbt h1 h2 hz1 hcp hX hgc
  go_enter Tryz.func23, Tryz.ntmps23
  rcases X0 with er | ⟨ct, r2⟩
  · have hne := hHX.out er rfl
    have herb : (er == 0) = false := by simpa using hne
    clear hHX hne
    go_wp2_with fail
    refine HC.out.mono ?_
    rintro e wA hA
    obtain ⟨u, ⟨nm0, A0, n0, c0, SA0, sn0, sc0, MA0, mn0, mc0, rfl⟩, rfl, ⟨r', e', hrA⟩, hoA⟩ := hA
    have HZ := Lib.hid (belowZ (keepZ HZ1.out hoA hgz) (alloc1 wA (.cells #[.string nm0, .slice A0 n0 c0, .slice SA0 sn0 sc0, .slice MA0 mn0 mc0] 26)))
    have HON := Lib.hid (Only.below (Only.trans' HB.out hoA) (alloc1 wA (.cells #[.string nm0, .slice A0 n0 c0, .slice SA0 sn0 sc0, .slice MA0 mn0 mc0] 26)))
    have HN := Lib.hid (heap_alloc_new wA (.cells #[.string nm0, .slice A0 n0 c0, .slice SA0 sn0 sc0, .slice MA0 mn0 mc0] 26))
    have hcpA : RdR wA (w.heap.size + 1) rest e0 := HCP.out.keep hoA.size (hoA.block _ HCP.out.lt (by intro e; injection e with e; omega)) fun k cs fr hk => hoA.block k (heap_ltZ hk) (by intro e; injection e with e; exact other_block hk HGC.out (by decide) e)
    have HCA := Lib.hid (hcpA.below (alloc1 wA (.cells #[.string nm0, .slice A0 n0 c0, .slice SA0 sn0 sc0, .slice MA0 mn0 mc0] 26)))
    have hg5 : g < wA.heap.size := Nat.lt_of_lt_of_le hgB hoA.size
    have hg6 : g ≠ wA.heap.size := by omega
    have HRA := Lib.hid (hrA.below (alloc1 wA (.cells #[.string nm0, .slice A0 n0 c0, .slice SA0 sn0 sc0, .slice MA0 mn0 mc0] 26)))
    clear hrA hoA hcpA HC HZ1 HCP HGC HB hc0 hc1 hf hgl
    go_upto_region 5 with fail
    generalize wA.alloc (.cells #[.string nm0, .slice A0 n0 c0, .slice SA0 sn0 sc0, .slice MA0 mn0 mc0] 26) = wB at *
    generalize wA.heap.size = b5 at *
    have x0 := (heap_at HN.out 0).trans (rfl : _ = some (Value.string nm0))
    have x1 := (heap_at HN.out 1).trans (rfl : _ = some (Value.slice A0 n0 c0))
    have x2 := (heap_at HN.out 2).trans (rfl : _ = some (Value.slice SA0 sn0 sc0))
    have x3 := (heap_at HN.out 3).trans (rfl : _ = some (Value.slice MA0 mn0 mc0))
    by_cases he' : e' = 0
    · subst he'
      go_wp2_with fail
      refine (Err_any g r' 0 wB HRA.out).mono ?_
      rintro _ w' ⟨rfl, rfl⟩
      obtain ⟨A2, c2, hbt2, -, -, -, d0, d1, -, -⟩ := HCA.out.open
      obtain ⟨A3, c3, -, -, -, -, g0, g1, gf, gl⟩ := HRA.out.open
      have HBK := Lib.hid (HRA.out.back hbt2 (e1 := e0))
      have ho2 : Only g wB ((wB.setCell ⟨g, 0, none⟩ (.slice A2 rest.length c2)).setCell ⟨g, 1, none⟩ (.int .i64 e0)) := ((Only.refl g wB).set _ _).set _ _
      have HON2 := Lib.hid (HON.out.trans ho2)
      have HZ2 := Lib.hid (keepZ HZ.out ho2 hgz)
      clear hbt2 ho2
      go_upto_region 11 with fail
      generalize (wB.setCell ⟨g, 0, none⟩ (.slice A2 rest.length c2)).setCell ⟨g, 1, none⟩ (.int .i64 e0) = wC at *
      clear d0 d1 g0 g1 gf gl HZ
      have HZ := Lib.hid HZ2.out
      have v0 := (heap_at HZ.out 0).trans (rfl : _ = some (Value.string ⟨#[]⟩))
      have v1 := (heap_at HZ.out 1).trans (rfl : _ = some (Value.slice none 0 0))
      have v2 := (heap_at HZ.out 2).trans (rfl : _ = some (Value.slice none 0 0))
      have v3 := (heap_at HZ.out 3).trans (rfl : _ = some (Value.slice none 0 0))
      have vf := heap_free HZ.out
      have vl : w.heap.size < wC.heap.size := heap_ltZ HZ.out
      go_wp2
      exact bodyPost_ret (v := .tuple #[.agg #[.string ⟨#[]⟩, .slice none 0 0, .slice none 0 0, .slice none 0 0], .int .i64 er]) (by simp [results, Tryz.results23, go_sem, v0, v1, v2, v3, vl]) rfl (CgP.err ⟨_, _, HBK.out⟩ HON2.out HZ.out (Nat.le_refl _) hgz.symm (((((Only.refl w.heap.size wC).set 0 _).set 1 _).set 2 _).set 3 _))
    · have heb : (e' == 0) = false := by simpa using he'
      go_wp2_with fail
      refine (Err_any g r' e' wB HRA.out).mono ?_
      rintro _ w' ⟨rfl, rfl⟩
      clear he'
      have v0 := (heap_at HZ.out 0).trans (rfl : _ = some (Value.string ⟨#[]⟩))
      have v1 := (heap_at HZ.out 1).trans (rfl : _ = some (Value.slice none 0 0))
      have v2 := (heap_at HZ.out 2).trans (rfl : _ = some (Value.slice none 0 0))
      have v3 := (heap_at HZ.out 3).trans (rfl : _ = some (Value.slice none 0 0))
      have vf := heap_free HZ.out
      have vl : w.heap.size < wB.heap.size := heap_ltZ HZ.out
      go_wp2
      exact bodyPost_ret (v := .tuple #[.agg #[.string ⟨#[]⟩, .slice none 0 0, .slice none 0 0, .slice none 0 0], .int .i64 er]) (by simp [results, Tryz.results23, go_sem, v0, v1, v2, v3, vl]) rfl (CgP.err ⟨_, _, HRA.out⟩ HON.out HZ.out (Nat.le_refl _) hgz.symm (((((Only.refl w.heap.size wB).set 0 _).set 1 _).set 2 _).set 3 _))
  · have HC2 := Lib.hid (show Calls _ _ _ _ (fun e w' => ∃ q : CtX, q.c = ct ∧ e = .returned (.tuple #[.agg #[.string q.c.name, .slice q.FA q.c.fs.length q.fc, .slice q.SA q.c.ss.length q.sc, .slice q.MA q.c.ms.length q.mc], .int .i64 0]) ∧ CtX.ok (fun b => ((w.alloc (.cells #[.string ⟨#[]⟩, .slice none 0 0, .slice none 0 0, .slice none 0 0] 26)).alloc (.cells #[.slice A rest.length c, .int .i64 e0] 94)).heap.size ≤ b) w' q ∧ RdR w' g r2 0 ∧ Only g ((w.alloc (.cells #[.string ⟨#[]⟩, .slice none 0 0, .slice none 0 0, .slice none 0 0] 26)).alloc (.cells #[.slice A rest.length c, .int .i64 e0] 94)) w') from HC.out)
    clear HC
    go_wp2_with fail
    refine HC2.out.mono ?_
    rintro e wA hA
    obtain ⟨q, hq, rfl, hel, hrA, hoA⟩ := hA
    obtain ⟨ct2, FA, fc, SA, sc, MA, mc⟩ := q
    have hq : ct2 = ct := hq
    subst hq
    clear hHX
    generalize hct : ct2 = ct at *
    have hel2 : CtX.ok (fun b => w.heap.size < b) wA ⟨ct, FA, fc, SA, sc, MA, mc⟩ := mvkCt _ _ _ _ _ (fun b hb hl => ⟨rfl, by simp only [World.size_alloc] at hb; omega⟩) (Nat.le_refl _) hel
    have HZ := Lib.hid (belowZ (keepZ HZ1.out hoA hgz) (alloc1 wA (.cells #[.string ct.name, .slice FA ct.fs.length fc, .slice SA ct.ss.length sc, .slice MA ct.ms.length mc] 26)))
    have HON := Lib.hid (Only.below (Only.trans' HB.out hoA) (alloc1 wA (.cells #[.string ct.name, .slice FA ct.fs.length fc, .slice SA ct.ss.length sc, .slice MA ct.ms.length mc] 26)))
    have HN := Lib.hid (heap_alloc_new wA (.cells #[.string ct.name, .slice FA ct.fs.length fc, .slice SA ct.ss.length sc, .slice MA ct.ms.length mc] 26))
    have hcpA : RdR wA (w.heap.size + 1) rest e0 := HCP.out.keep hoA.size (hoA.block _ HCP.out.lt (by intro e; injection e with e; omega)) fun k cs fr hk => hoA.block k (heap_ltZ hk) (by intro e; injection e with e; exact other_block hk HGC.out (by decide) e)
    have HCA := Lib.hid (hcpA.below (alloc1 wA (.cells #[.string ct.name, .slice FA ct.fs.length fc, .slice SA ct.ss.length sc, .slice MA ct.ms.length mc] 26)))
    have hg5 : g < wA.heap.size := Nat.lt_of_lt_of_le hgB hoA.size
    have hg6 : g ≠ wA.heap.size := by omega
    have HRA := Lib.hid (hrA.below (alloc1 wA (.cells #[.string ct.name, .slice FA ct.fs.length fc, .slice SA ct.ss.length sc, .slice MA ct.ms.length mc] 26)))
    have HEL := Lib.hid (mvkCt _ _ _ _ _ (keptBelow (alloc1 wA (.cells #[.string ct.name, .slice FA ct.fs.length fc, .slice SA ct.ss.length sc, .slice MA ct.ms.length mc] 26))) (alloc1 wA (.cells #[.string ct.name, .slice FA ct.fs.length fc, .slice SA ct.ss.length sc, .slice MA ct.ms.length mc] 26)).size hel2)
    clear hrA hoA hcpA HC2 HZ1 HCP HGC HB hc0 hc1 hf hgl hel hel2 hct
    go_upto_region 5 with fail
    generalize wA.alloc (.cells #[.string ct.name, .slice FA ct.fs.length fc, .slice SA ct.ss.length sc, .slice MA ct.ms.length mc] 26) = wB at *
    generalize wA.heap.size = b5 at *
    have h00 : ((0 : Int) == 0) = true := rfl
    have CK := Lib.hid (cCheck_any ct FA fc SA sc MA mc wB (CtX.ctk (S := fun b => w.heap.size < b) (q := ⟨ct, FA, fc, SA, sc, MA, mc⟩) HEL.out))
    have x0 := (heap_at HN.out 0).trans (rfl : _ = some (Value.string ct.name))
    have x1 := (heap_at HN.out 1).trans (rfl : _ = some (Value.slice FA ct.fs.length fc))
    have x2 := (heap_at HN.out 2).trans (rfl : _ = some (Value.slice SA ct.ss.length sc))
    have x3 := (heap_at HN.out 3).trans (rfl : _ = some (Value.slice MA ct.ms.length mc))
    go_wp2_with fail
    refine CK.out.mono ?_
    rintro _ wK ⟨rfl, hbK⟩
    have HZK := Lib.hid (belowZ HZ.out hbK)
    have HNK := Lib.hid (belowZ HN.out hbK)
    have HONK := Lib.hid (Only.below HON.out hbK)
    have HRAK := Lib.hid (HRA.out.below hbK)
    have HCAK := Lib.hid (HCA.out.below hbK)
    have HELK := Lib.hid (mvkCt _ _ _ _ _ (keptBelow hbK) hbK.size HEL.out)
    clear hbK HZ HN HON HRA HCA HEL CK x0 x1 x2 x3
    have HZ := Lib.hid HZK.out
    have HN := Lib.hid HNK.out
    have HON := Lib.hid HONK.out
    have HRA0 := Lib.hid HRAK.out
    have HCA := Lib.hid HCAK.out
    have HEL := Lib.hid HELK.out
    clear HZK HNK HONK HRAK HCAK HELK
    by_cases hck : checkC ct = 0
    · have HOK := Lib.hid (show okC2 (.ok (ct, r2)) = .ok (ct, r2) from if_pos hck)
      have hcb : (checkC ct != 0) = false := by simpa using hck
      have x0 := (heap_at HN.out 0).trans (rfl : _ = some (Value.string ct.name))
      have x1 := (heap_at HN.out 1).trans (rfl : _ = some (Value.slice FA ct.fs.length fc))
      have x2 := (heap_at HN.out 2).trans (rfl : _ = some (Value.slice SA ct.ss.length sc))
      have x3 := (heap_at HN.out 3).trans (rfl : _ = some (Value.slice MA ct.ms.length mc))
      have v0 := (heap_at HZ.out 0).trans (rfl : _ = some (Value.string ⟨#[]⟩))
      have v1 := (heap_at HZ.out 1).trans (rfl : _ = some (Value.slice none 0 0))
      have v2 := (heap_at HZ.out 2).trans (rfl : _ = some (Value.slice none 0 0))
      have v3 := (heap_at HZ.out 3).trans (rfl : _ = some (Value.slice none 0 0))
      have vf := heap_free HZ.out
      have vl : w.heap.size < wK.heap.size := heap_ltZ HZ.out
      go_wp2
      exact bodyPost_ret (v := .tuple #[.agg #[.string ct.name, .slice FA ct.fs.length fc, .slice SA ct.ss.length sc, .slice MA ct.ms.length mc], .int .i64 0]) (by simp [results, Tryz.results23, go_sem, v0, v1, v2, v3, vl]) rfl (by rw [HOK.out]; exact CgP.fin ⟨ct, FA, fc, SA, sc, MA, mc⟩ r2 HEL.out HRA0.out HON.out HZ.out (Nat.le_refl _) hgz.symm (((((Only.refl w.heap.size wK).set 0 _).set 1 _).set 2 _).set 3 _))
    · have HOK := Lib.hid (show okC2 (.ok (ct, r2)) = .error 12 from if_neg hck)
      have hcb : (checkC ct != 0) = true := by simpa using hck
      have h12 : ((12 : Int) == 0) = false := rfl
      go_wp2_with fail
      refine (Err_any g r2 0 wK HRA0.out).mono ?_
      rintro _ w' ⟨rfl, rfl⟩
      obtain ⟨A2, c2, hbt2, -, -, -, d0, d1, -, -⟩ := HCA.out.open
      obtain ⟨A3, c3, -, -, -, -, g0, g1, gf, gl⟩ := HRA0.out.open
      have HBK := Lib.hid (HRA0.out.back hbt2 (e1 := e0))
      have ho2 : Only g wK ((wK.setCell ⟨g, 0, none⟩ (.slice A2 rest.length c2)).setCell ⟨g, 1, none⟩ (.int .i64 e0)) := ((Only.refl g wK).set _ _).set _ _
      have HON2 := Lib.hid (HON.out.trans ho2)
      have HZ2 := Lib.hid (keepZ HZ.out ho2 hgz)
      clear hbt2 ho2
      go_upto_region 11 with fail
      generalize (wK.setCell ⟨g, 0, none⟩ (.slice A2 rest.length c2)).setCell ⟨g, 1, none⟩ (.int .i64 e0) = wC at *
      clear d0 d1 g0 g1 gf gl HZ
      have HZ := Lib.hid HZ2.out
      have v0 := (heap_at HZ.out 0).trans (rfl : _ = some (Value.string ⟨#[]⟩))
      have v1 := (heap_at HZ.out 1).trans (rfl : _ = some (Value.slice none 0 0))
      have v2 := (heap_at HZ.out 2).trans (rfl : _ = some (Value.slice none 0 0))
      have v3 := (heap_at HZ.out 3).trans (rfl : _ = some (Value.slice none 0 0))
      have vf := heap_free HZ.out
      have vl : w.heap.size < wC.heap.size := heap_ltZ HZ.out
      go_wp2
      exact bodyPost_ret (v := .tuple #[.agg #[.string ⟨#[]⟩, .slice none 0 0, .slice none 0 0, .slice none 0 0], .int .i64 12]) (by simp [results, Tryz.results23, go_sem, v0, v1, v2, v3, vl]) rfl (by rw [HOK.out]; exact CgP.err ⟨_, _, HBK.out⟩ HON2.out HZ.out (Nat.le_refl _) hgz.symm (((((Only.refl w.heap.size wC).set 0 _).set 1 _).set 2 _).set 3 _))
end Go.Proofs.YthgdnpcfdgimlabGreat

/- Layer 6: a move is read by the program. (Made by gen/gencgetf.py.) -/
namespace Go.Proofs.YthgdnpcfdgimlabGreat
open Go.RowKit
set_option linter.unusedVariables false
set_option linter.unusedSimpArgs false
set_option maxRecDepth 20000

set_option maxHeartbeats 8000000 in
theorem getMove_walk (g : Nat) (rest r1 r2 r3 r4 : List UInt8) (e0 e1 e2 e3 e4 : Int) (nm : ByteArray) (kf kt ko : Int) (X : Except Int (Ex × Int × List UInt8)) (L : List UInt8 → Except Int (List Eff × List UInt8)) (w : World) (hr : RdR w g rest e0)
    (q1 : ∀ W, RdR W g rest e0 → Calls Tryz.prog 100 #[.pointer (some ⟨g, 0, none⟩)] W (Did g (.string nm) r1 e1 W))
    (q2 : ∀ W, RdR W g r1 e1 → Calls Tryz.prog 140 #[.pointer (some ⟨g, 0, none⟩)] W (Did g (.int .i64 kf) r2 e2 W))
    (q3 : ∀ W, RdR W g r2 e2 → Calls Tryz.prog 140 #[.pointer (some ⟨g, 0, none⟩)] W (Did g (.int .i64 kt) r3 e3 W))
    (q4 : ∀ W, RdR W g r3 e3 → Calls Tryz.prog 140 #[.pointer (some ⟨g, 0, none⟩)] W (Did g (.int .i64 ko) r4 e4 W))
    (q5 : ∀ W, RdR W g r4 e4 → Calls Tryz.prog 146 #[.pointer (some ⟨g, 0, none⟩)] W (GxP g X W))
    (q6 : ∀ W x n r, X = .ok (x, n, r) → RdR W g r 0 → Calls Tryz.prog 147 #[.pointer (some ⟨g, 0, none⟩), .int .i64 4, .func (Fn.func 148) #[] #[]] W (LsR g EffN (L r) W)) (hne : ∀ er, X = .error er → er ≠ 0) :
    Calls Tryz.prog 106 #[.pointer (some ⟨g, 0, none⟩)] w (ElP BadMv g (fun q => .agg (MvX.cells q).toArray) MvX.m (fun S w q => MvX.ok S w q) (okM nm kf kt ko X L) w) := by
  have hsf := fun (w : World) (a : Addr) (m : Mode) (b : Nat) => run_store Tryz.prog w a (.float .f64 b) m rfl
  have Q1 := Lib.hid q1
  have Q2 := Lib.hid q2
  have Q3 := Lib.hid q3
  have Q4 := Lib.hid q4
  have Q5 := Lib.hid q5
  have Q6 := Lib.hid q6
  clear q1 q2 q3 q4 q5 q6
  have HNE := Lib.hid hne
  clear hne
  have hgw := hr.lt
  have hgz : w.heap.size ≠ g := by omega
  have HR0 := Lib.hid (hr.below (alloc1 w (.cells #[.string ⟨#[]⟩, .int .i64 0, .int .i64 0, .int .i64 0, .slice none 0 0, .string ⟨#[]⟩, .int .i64 0, .int .i64 0, .bool false, .string ⟨#[]⟩, .float .f64 0, .slice none 0 0, .int .i64 0] 61)))
  have HZ0 := Lib.hid (heap_alloc_new w (.cells #[.string ⟨#[]⟩, .int .i64 0, .int .i64 0, .int .i64 0, .slice none 0 0, .string ⟨#[]⟩, .int .i64 0, .int .i64 0, .bool false, .string ⟨#[]⟩, .float .f64 0, .slice none 0 0, .int .i64 0] 61))
  have HO0 := Lib.hid (Only.below (Only.refl g w) (alloc1 w (.cells #[.string ⟨#[]⟩, .int .i64 0, .int .i64 0, .int .i64 0, .slice none 0 0, .string ⟨#[]⟩, .int .i64 0, .int .i64 0, .bool false, .string ⟨#[]⟩, .float .f64 0, .slice none 0 0, .int .i64 0] 61)))
  clear hr
  go_enter Tryz.func106, Tryz.ntmps106
  go_upto_region 1 with fail
  generalize w.alloc (.cells #[.string ⟨#[]⟩, .int .i64 0, .int .i64 0, .int .i64 0, .slice none 0 0, .string ⟨#[]⟩, .int .i64 0, .int .i64 0, .bool false, .string ⟨#[]⟩, .float .f64 0, .slice none 0 0, .int .i64 0] 61) = w0 at *
  go_wp2_with fail
  refine (Q1.out _ HR0.out).mono ?_
  rintro _ w1 ⟨rfl, hr1, ho1⟩
  have HZ1 := Lib.hid (keepZ HZ0.out ho1 hgz)
  have HO1 := Lib.hid (HO0.out.trans ho1)
  have HR1 := Lib.hid hr1
  clear hr1 ho1 HR0 HZ0 HO0
  go_wp2_with fail
  refine (Q2.out _ HR1.out).mono ?_
  rintro _ w2 ⟨rfl, hr2, ho2⟩
  have HZ2 := Lib.hid (keepZ HZ1.out ho2 hgz)
  have HO2 := Lib.hid (HO1.out.trans ho2)
  have HR2 := Lib.hid hr2
  clear hr2 ho2 HR1 HZ1 HO1
  go_wp2_with fail
  refine (Q3.out _ HR2.out).mono ?_
  rintro _ w3 ⟨rfl, hr3, ho3⟩
  have HZ3 := Lib.hid (keepZ HZ2.out ho3 hgz)
  have HO3 := Lib.hid (HO2.out.trans ho3)
  have HR3 := Lib.hid hr3
  clear hr3 ho3 HR2 HZ2 HO2
  go_wp2_with fail
  refine (Q4.out _ HR3.out).mono ?_
  rintro _ w4 ⟨rfl, hr4, ho4⟩
  have HZ4 := Lib.hid (keepZ HZ3.out ho4 hgz)
  have HO4 := Lib.hid (HO3.out.trans ho4)
  have HR4 := Lib.hid hr4
  clear hr4 ho4 HR3 HZ3 HO3
  have hzx : w.heap.size < w4.heap.size := heap_ltZ HZ4.out
  go_upto_region 2 with fail
  have HX5 := Lib.hid (heap_alloc_new w4 (.cells #[.string nm, .int .i64 kf, .int .i64 kt, .int .i64 0, .slice none 0 0, .string ⟨#[]⟩, .int .i64 0, .int .i64 0, .bool false, .string ⟨#[]⟩, .float .f64 0, .slice none 0 0, .int .i64 ko] 61))
  have HZ5 := Lib.hid (belowZ HZ4.out (alloc1 w4 (.cells #[.string nm, .int .i64 kf, .int .i64 kt, .int .i64 0, .slice none 0 0, .string ⟨#[]⟩, .int .i64 0, .int .i64 0, .bool false, .string ⟨#[]⟩, .float .f64 0, .slice none 0 0, .int .i64 ko] 61)))
  have HO5 := Lib.hid (Only.below HO4.out (alloc1 w4 (.cells #[.string nm, .int .i64 kf, .int .i64 kt, .int .i64 0, .slice none 0 0, .string ⟨#[]⟩, .int .i64 0, .int .i64 0, .bool false, .string ⟨#[]⟩, .float .f64 0, .slice none 0 0, .int .i64 ko] 61)))
  have HR5 := Lib.hid (HR4.out.below (alloc1 w4 (.cells #[.string nm, .int .i64 kf, .int .i64 kt, .int .i64 0, .slice none 0 0, .string ⟨#[]⟩, .int .i64 0, .int .i64 0, .bool false, .string ⟨#[]⟩, .float .f64 0, .slice none 0 0, .int .i64 ko] 61)))
  clear HZ4 HO4 HR4
  generalize w4.alloc (.cells #[.string nm, .int .i64 kf, .int .i64 kt, .int .i64 0, .slice none 0 0, .string ⟨#[]⟩, .int .i64 0, .int .i64 0, .bool false, .string ⟨#[]⟩, .float .f64 0, .slice none 0 0, .int .i64 ko] 61) = w5 at *
  generalize w4.heap.size = bx at *
  have hgx : g ≠ bx := by omega
  have hxg : bx ≠ g := by omega
  have hzx2 : w.heap.size ≠ bx := by omega
  have hbx : w.heap.size ≤ bx := by omega
  go_wp2_with fail
  refine (Q5.out _ HR5.out).mono ?_
  rintro e w6 h6
  clear Q1 Q2 Q3 Q4 Q5
  rcases X with er | ⟨x, n3, rx⟩
  · skip
    obtain ⟨rfl, hrx, ho6⟩ := h6
    have HX6 := Lib.hid (keepZ HX5.out ho6 hxg)
    have HZ6 := Lib.hid (keepZ HZ5.out ho6 hgz)
    have HO6 := Lib.hid (HO5.out.trans ho6)
    clear HX5 HZ5 HO5 HR5 
    have HR6 := Lib.hid hrx
    have herb : (er != 0) = true := by simpa using HNE.out er rfl
    clear hrx ho6
    have x3 := (heap_at HX6.out 3).trans (rfl : _ = some (Value.int .i64 0))
    have x4 := (heap_at HX6.out 4).trans (rfl : _ = some (Value.slice none 0 0))
    have x5 := (heap_at HX6.out 5).trans (rfl : _ = some (Value.string ⟨#[]⟩))
    have x6 := (heap_at HX6.out 6).trans (rfl : _ = some (Value.int .i64 0))
    have x7 := (heap_at HX6.out 7).trans (rfl : _ = some (Value.int .i64 0))
    have x8 := (heap_at HX6.out 8).trans (rfl : _ = some (Value.bool false))
    have x9 := (heap_at HX6.out 9).trans (rfl : _ = some (Value.string ⟨#[]⟩))
    have x10 := (heap_at HX6.out 10).trans (rfl : _ = some (Value.float .f64 0))
    have xf := heap_free HX6.out
    have xl : bx < w6.heap.size := heap_ltZ HX6.out
    go_upto_region 4 with fail
    have hon : Only bx w6 ((((((((w6.setCell ⟨bx, 3, none⟩ (.int .i64 0)).setCell ⟨bx, 4, none⟩ (.slice none 0 0)).setCell ⟨bx, 5, none⟩ (.string ⟨#[]⟩)).setCell ⟨bx, 6, none⟩ (.int .i64 0)).setCell ⟨bx, 7, none⟩ (.int .i64 0)).setCell ⟨bx, 8, none⟩ (.bool false)).setCell ⟨bx, 9, none⟩ (.string ⟨#[]⟩)).setCell ⟨bx, 10, none⟩ (.float .f64 0)) := (Only.set (Only.set (Only.set (Only.set (Only.set (Only.set (Only.set (Only.set (Only.refl bx w6) 3 (.int .i64 0)) 4 (.slice none 0 0)) 5 (.string ⟨#[]⟩)) 6 (.int .i64 0)) 7 (.int .i64 0)) 8 (.bool false)) 9 (.string ⟨#[]⟩)) 10 (.float .f64 0))
    have HX7 := Lib.hid (show ((((((((w6.setCell ⟨bx, 3, none⟩ (.int .i64 0)).setCell ⟨bx, 4, none⟩ (.slice none 0 0)).setCell ⟨bx, 5, none⟩ (.string ⟨#[]⟩)).setCell ⟨bx, 6, none⟩ (.int .i64 0)).setCell ⟨bx, 7, none⟩ (.int .i64 0)).setCell ⟨bx, 8, none⟩ (.bool false)).setCell ⟨bx, 9, none⟩ (.string ⟨#[]⟩)).setCell ⟨bx, 10, none⟩ (.float .f64 0)).heap[bx]? = some (.cells #[.string nm, .int .i64 kf, .int .i64 kt, .int .i64 0, .slice none 0 0, .string ⟨#[]⟩, .int .i64 0, .int .i64 0, .bool false, .string ⟨#[]⟩, .float .f64 0, .slice none 0 0, .int .i64 ko] 61 (0, 0)) from (setZ (setZ (setZ (setZ (setZ (setZ (setZ (setZ HX6.out 3 (.int .i64 0)) 4 (.slice none 0 0)) 5 (.string ⟨#[]⟩)) 6 (.int .i64 0)) 7 (.int .i64 0)) 8 (.bool false)) 9 (.string ⟨#[]⟩)) 10 (.float .f64 0)))
    have HZ7 := Lib.hid (offZ (offZ (offZ (offZ (offZ (offZ (offZ (offZ HZ6.out hzx2 3 (.int .i64 0)) hzx2 4 (.slice none 0 0)) hzx2 5 (.string ⟨#[]⟩)) hzx2 6 (.int .i64 0)) hzx2 7 (.int .i64 0)) hzx2 8 (.bool false)) hzx2 9 (.string ⟨#[]⟩)) hzx2 10 (.float .f64 0))
    have HO7 := Lib.hid (Only.setNew (Only.setNew (Only.setNew (Only.setNew (Only.setNew (Only.setNew (Only.setNew (Only.setNew HO6.out hbx 3 (.int .i64 0)) hbx 4 (.slice none 0 0)) hbx 5 (.string ⟨#[]⟩)) hbx 6 (.int .i64 0)) hbx 7 (.int .i64 0)) hbx 8 (.bool false)) hbx 9 (.string ⟨#[]⟩)) hbx 10 (.float .f64 0))
    have HR7 := Lib.hid (show ∃ r' e', RdR ((((((((w6.setCell ⟨bx, 3, none⟩ (.int .i64 0)).setCell ⟨bx, 4, none⟩ (.slice none 0 0)).setCell ⟨bx, 5, none⟩ (.string ⟨#[]⟩)).setCell ⟨bx, 6, none⟩ (.int .i64 0)).setCell ⟨bx, 7, none⟩ (.int .i64 0)).setCell ⟨bx, 8, none⟩ (.bool false)).setCell ⟨bx, 9, none⟩ (.string ⟨#[]⟩)).setCell ⟨bx, 10, none⟩ (.float .f64 0)) g r' e' from by obtain ⟨r', e', h⟩ := HR6.out; exact ⟨r', e', h.offT hon hgx HX6.out (by decide)⟩)
    clear hon x3 x4 x5 x6 x7 x8 x9 x10 xf xl HX6 HZ6 HO6 HR6 
    generalize ((((((((w6.setCell ⟨bx, 3, none⟩ (.int .i64 0)).setCell ⟨bx, 4, none⟩ (.slice none 0 0)).setCell ⟨bx, 5, none⟩ (.string ⟨#[]⟩)).setCell ⟨bx, 6, none⟩ (.int .i64 0)).setCell ⟨bx, 7, none⟩ (.int .i64 0)).setCell ⟨bx, 8, none⟩ (.bool false)).setCell ⟨bx, 9, none⟩ (.string ⟨#[]⟩)).setCell ⟨bx, 10, none⟩ (.float .f64 0)) = w7 at *
    have v0 := (heap_at HZ7.out 0).trans (rfl : _ = some (Value.string ⟨#[]⟩))
    have v1 := (heap_at HZ7.out 1).trans (rfl : _ = some (Value.int .i64 0))
    have v2 := (heap_at HZ7.out 2).trans (rfl : _ = some (Value.int .i64 0))
    have v3 := (heap_at HZ7.out 3).trans (rfl : _ = some (Value.int .i64 0))
    have v4 := (heap_at HZ7.out 4).trans (rfl : _ = some (Value.slice none 0 0))
    have v5 := (heap_at HZ7.out 5).trans (rfl : _ = some (Value.string ⟨#[]⟩))
    have v6 := (heap_at HZ7.out 6).trans (rfl : _ = some (Value.int .i64 0))
    have v7 := (heap_at HZ7.out 7).trans (rfl : _ = some (Value.int .i64 0))
    have v8 := (heap_at HZ7.out 8).trans (rfl : _ = some (Value.bool false))
    have v9 := (heap_at HZ7.out 9).trans (rfl : _ = some (Value.string ⟨#[]⟩))
    have v10 := (heap_at HZ7.out 10).trans (rfl : _ = some (Value.float .f64 0))
    have v11 := (heap_at HZ7.out 11).trans (rfl : _ = some (Value.slice none 0 0))
    have v12 := (heap_at HZ7.out 12).trans (rfl : _ = some (Value.int .i64 0))
    have x0 := (heap_at HX7.out 0).trans (rfl : _ = some (Value.string nm))
    have x1 := (heap_at HX7.out 1).trans (rfl : _ = some (Value.int .i64 kf))
    have x2 := (heap_at HX7.out 2).trans (rfl : _ = some (Value.int .i64 kt))
    have x3 := (heap_at HX7.out 3).trans (rfl : _ = some (Value.int .i64 0))
    have x4 := (heap_at HX7.out 4).trans (rfl : _ = some (Value.slice none 0 0))
    have x5 := (heap_at HX7.out 5).trans (rfl : _ = some (Value.string ⟨#[]⟩))
    have x6 := (heap_at HX7.out 6).trans (rfl : _ = some (Value.int .i64 0))
    have x7 := (heap_at HX7.out 7).trans (rfl : _ = some (Value.int .i64 0))
    have x8 := (heap_at HX7.out 8).trans (rfl : _ = some (Value.bool false))
    have x9 := (heap_at HX7.out 9).trans (rfl : _ = some (Value.string ⟨#[]⟩))
    have x10 := (heap_at HX7.out 10).trans (rfl : _ = some (Value.float .f64 0))
    have x11 := (heap_at HX7.out 11).trans (rfl : _ = some (Value.slice none 0 0))
    have x12 := (heap_at HX7.out 12).trans (rfl : _ = some (Value.int .i64 ko))
    have vf := heap_free HZ7.out
    have xf := heap_free HX7.out
    have vl : w.heap.size < w7.heap.size := heap_ltZ HZ7.out
    have xl : bx < w7.heap.size := heap_ltZ HX7.out
    go_wp2
    exact bodyPost_ret (v := .tuple #[.agg #[.string nm, .int .i64 kf, .int .i64 kt, .int .i64 0, .slice none 0 0, .string ⟨#[]⟩, .int .i64 0, .int .i64 0, .bool false, .string ⟨#[]⟩, .float .f64 0, .slice none 0 0, .int .i64 ko], .int .i64 er]) (by simp [results, Tryz.results106, go_sem, v0, v1, v2, v3, v4, v5, v6, v7, v8, v9, v10, v11, v12, vl]) rfl (ElP.err ⟨_, _, _, _, _, _, _, _, vZero, _, _, _, _, rfl⟩ HR7.out HO7.out HZ7.out (by decide) (Nat.le_refl _) hgz.symm ((((((((((((((Only.refl w.heap.size w7).set 0 _).set 1 _).set 2 _).set 3 _).set 4 _).set 5 _).set 6 _).set 7 _).set 8 _).set 9 _).set 10 _).set 11 _).set 12 _))
  · skip
    obtain ⟨A, c, rfl, hn, hrx, ho6⟩ := h6
    have hszx := heap_ltZ HX5.out
    have HX6 := Lib.hid (keepZ HX5.out ho6 hxg)
    have HZ6 := Lib.hid (keepZ HZ5.out ho6 hgz)
    have HO6 := Lib.hid (HO5.out.trans ho6)
    clear HX5 HZ5 HO5 HR5 
    dsimp only at hrx hn
    have HR6 := Lib.hid hrx
    have HN6 := Lib.hid (show ExS (fun b => bx < b) w6 6 A c x from hn.move (keptMore fun b hb => by omega) (Nat.le_refl _))
    clear hrx ho6 hn hszx
    have h00 : ((0 : Int) != 0) = false := rfl
    have x3 := (heap_at HX6.out 3).trans (rfl : _ = some (Value.int .i64 0))
    have x4 := (heap_at HX6.out 4).trans (rfl : _ = some (Value.slice none 0 0))
    have x5 := (heap_at HX6.out 5).trans (rfl : _ = some (Value.string ⟨#[]⟩))
    have x6 := (heap_at HX6.out 6).trans (rfl : _ = some (Value.int .i64 0))
    have x7 := (heap_at HX6.out 7).trans (rfl : _ = some (Value.int .i64 0))
    have x8 := (heap_at HX6.out 8).trans (rfl : _ = some (Value.bool false))
    have x9 := (heap_at HX6.out 9).trans (rfl : _ = some (Value.string ⟨#[]⟩))
    have x10 := (heap_at HX6.out 10).trans (rfl : _ = some (Value.float .f64 0))
    have xf := heap_free HX6.out
    have xl : bx < w6.heap.size := heap_ltZ HX6.out
    go_upto_region 4 with fail
    have hon : Only bx w6 ((((((((w6.setCell ⟨bx, 3, none⟩ (.int .i64 x.op)).setCell ⟨bx, 4, none⟩ (.slice A x.kids.length c)).setCell ⟨bx, 5, none⟩ (.string x.name)).setCell ⟨bx, 6, none⟩ (.int .i64 x.val.k)).setCell ⟨bx, 7, none⟩ (.int .i64 x.val.i)).setCell ⟨bx, 8, none⟩ (.bool x.val.b)).setCell ⟨bx, 9, none⟩ (.string x.val.s)).setCell ⟨bx, 10, none⟩ (.float .f64 x.val.n)) := (Only.set (Only.set (Only.set (Only.set (Only.set (Only.set (Only.set (Only.set (Only.refl bx w6) 3 (.int .i64 x.op)) 4 (.slice A x.kids.length c)) 5 (.string x.name)) 6 (.int .i64 x.val.k)) 7 (.int .i64 x.val.i)) 8 (.bool x.val.b)) 9 (.string x.val.s)) 10 (.float .f64 x.val.n))
    have HX7 := Lib.hid (show ((((((((w6.setCell ⟨bx, 3, none⟩ (.int .i64 x.op)).setCell ⟨bx, 4, none⟩ (.slice A x.kids.length c)).setCell ⟨bx, 5, none⟩ (.string x.name)).setCell ⟨bx, 6, none⟩ (.int .i64 x.val.k)).setCell ⟨bx, 7, none⟩ (.int .i64 x.val.i)).setCell ⟨bx, 8, none⟩ (.bool x.val.b)).setCell ⟨bx, 9, none⟩ (.string x.val.s)).setCell ⟨bx, 10, none⟩ (.float .f64 x.val.n)).heap[bx]? = some (.cells #[.string nm, .int .i64 kf, .int .i64 kt, .int .i64 x.op, .slice A x.kids.length c, .string x.name, .int .i64 x.val.k, .int .i64 x.val.i, .bool x.val.b, .string x.val.s, .float .f64 x.val.n, .slice none 0 0, .int .i64 ko] 61 (0, 0)) from (setZ (setZ (setZ (setZ (setZ (setZ (setZ (setZ HX6.out 3 (.int .i64 x.op)) 4 (.slice A x.kids.length c)) 5 (.string x.name)) 6 (.int .i64 x.val.k)) 7 (.int .i64 x.val.i)) 8 (.bool x.val.b)) 9 (.string x.val.s)) 10 (.float .f64 x.val.n)))
    have HZ7 := Lib.hid (offZ (offZ (offZ (offZ (offZ (offZ (offZ (offZ HZ6.out hzx2 3 (.int .i64 x.op)) hzx2 4 (.slice A x.kids.length c)) hzx2 5 (.string x.name)) hzx2 6 (.int .i64 x.val.k)) hzx2 7 (.int .i64 x.val.i)) hzx2 8 (.bool x.val.b)) hzx2 9 (.string x.val.s)) hzx2 10 (.float .f64 x.val.n))
    have HO7 := Lib.hid (Only.setNew (Only.setNew (Only.setNew (Only.setNew (Only.setNew (Only.setNew (Only.setNew (Only.setNew HO6.out hbx 3 (.int .i64 x.op)) hbx 4 (.slice A x.kids.length c)) hbx 5 (.string x.name)) hbx 6 (.int .i64 x.val.k)) hbx 7 (.int .i64 x.val.i)) hbx 8 (.bool x.val.b)) hbx 9 (.string x.val.s)) hbx 10 (.float .f64 x.val.n))
    have HR7 := Lib.hid (HR6.out.offT hon hgx HX6.out (by decide))
    have HN7 := Lib.hid (ExS.move (keptOnly hon (fun b hb => by omega)) hon.size HN6.out)
    clear hon x3 x4 x5 x6 x7 x8 x9 x10 xf xl HX6 HZ6 HO6 HR6 HN6
    generalize ((((((((w6.setCell ⟨bx, 3, none⟩ (.int .i64 x.op)).setCell ⟨bx, 4, none⟩ (.slice A x.kids.length c)).setCell ⟨bx, 5, none⟩ (.string x.name)).setCell ⟨bx, 6, none⟩ (.int .i64 x.val.k)).setCell ⟨bx, 7, none⟩ (.int .i64 x.val.i)).setCell ⟨bx, 8, none⟩ (.bool x.val.b)).setCell ⟨bx, 9, none⟩ (.string x.val.s)).setCell ⟨bx, 10, none⟩ (.float .f64 x.val.n)) = w7 at *
    have hcall := Q6.out w7 x n3 rx rfl HR7.out
    clear Q6
    rcases hV : L rx with er | ⟨es, r5⟩
    · skip
      rw [hV] at hcall
      have HOKF := Lib.hid (show okM nm kf kt ko (.ok (x, n3, rx)) L = .error er from by unfold okM; simp only [hV])
      have HC := Lib.hid hcall
      clear hcall hV
      go_wp2_with fail
      refine HC.out.mono ?_
      rintro e w8 h8
      obtain ⟨rfl, hrx, ho8⟩ := h8
      have HX8 := Lib.hid (keepZ HX7.out ho8 hxg)
      have HZ8 := Lib.hid (keepZ HZ7.out ho8 hgz)
      have HO8 := Lib.hid (HO7.out.trans ho8)
      have HN8 := Lib.hid (ExS.move (keptOnly ho8 (fun b hb => by omega)) ho8.size HN7.out)
      clear HX7 HZ7 HO7 HR7 HN7
      have HR8 := Lib.hid hrx
      clear hrx ho8 HC
      have x11 := (heap_at HX8.out 11).trans (rfl : _ = some (Value.slice none 0 0))
      have xf := heap_free HX8.out
      have xl : bx < w8.heap.size := heap_ltZ HX8.out
      go_upto_region 7 with fail
      have hon : Only bx w8 (w8.setCell ⟨bx, 11, none⟩ (.slice none 0 0)) := (Only.set (Only.refl bx w8) 11 (.slice none 0 0))
      have HX9 := Lib.hid (show (w8.setCell ⟨bx, 11, none⟩ (.slice none 0 0)).heap[bx]? = some (.cells #[.string nm, .int .i64 kf, .int .i64 kt, .int .i64 x.op, .slice A x.kids.length c, .string x.name, .int .i64 x.val.k, .int .i64 x.val.i, .bool x.val.b, .string x.val.s, .float .f64 x.val.n, .slice none 0 0, .int .i64 ko] 61 (0, 0)) from (setZ HX8.out 11 (.slice none 0 0)))
      have HZ9 := Lib.hid (offZ HZ8.out hzx2 11 (.slice none 0 0))
      have HO9 := Lib.hid (Only.setNew HO8.out hbx 11 (.slice none 0 0))
      have HR9 := Lib.hid (show ∃ r' e', RdR (w8.setCell ⟨bx, 11, none⟩ (.slice none 0 0)) g r' e' from by obtain ⟨r', e', h⟩ := HR8.out; exact ⟨r', e', h.offT hon hgx HX8.out (by decide)⟩)
      have HN9 := Lib.hid (ExS.move (keptOnly hon (fun b hb => by omega)) hon.size HN8.out)
      clear hon x11 xf xl HX8 HZ8 HO8 HR8 HN8
      generalize (w8.setCell ⟨bx, 11, none⟩ (.slice none 0 0)) = w9 at *
      have v0 := (heap_at HZ9.out 0).trans (rfl : _ = some (Value.string ⟨#[]⟩))
      have v1 := (heap_at HZ9.out 1).trans (rfl : _ = some (Value.int .i64 0))
      have v2 := (heap_at HZ9.out 2).trans (rfl : _ = some (Value.int .i64 0))
      have v3 := (heap_at HZ9.out 3).trans (rfl : _ = some (Value.int .i64 0))
      have v4 := (heap_at HZ9.out 4).trans (rfl : _ = some (Value.slice none 0 0))
      have v5 := (heap_at HZ9.out 5).trans (rfl : _ = some (Value.string ⟨#[]⟩))
      have v6 := (heap_at HZ9.out 6).trans (rfl : _ = some (Value.int .i64 0))
      have v7 := (heap_at HZ9.out 7).trans (rfl : _ = some (Value.int .i64 0))
      have v8 := (heap_at HZ9.out 8).trans (rfl : _ = some (Value.bool false))
      have v9 := (heap_at HZ9.out 9).trans (rfl : _ = some (Value.string ⟨#[]⟩))
      have v10 := (heap_at HZ9.out 10).trans (rfl : _ = some (Value.float .f64 0))
      have v11 := (heap_at HZ9.out 11).trans (rfl : _ = some (Value.slice none 0 0))
      have v12 := (heap_at HZ9.out 12).trans (rfl : _ = some (Value.int .i64 0))
      have x0 := (heap_at HX9.out 0).trans (rfl : _ = some (Value.string nm))
      have x1 := (heap_at HX9.out 1).trans (rfl : _ = some (Value.int .i64 kf))
      have x2 := (heap_at HX9.out 2).trans (rfl : _ = some (Value.int .i64 kt))
      have x3 := (heap_at HX9.out 3).trans (rfl : _ = some (Value.int .i64 x.op))
      have x4 := (heap_at HX9.out 4).trans (rfl : _ = some (Value.slice A x.kids.length c))
      have x5 := (heap_at HX9.out 5).trans (rfl : _ = some (Value.string x.name))
      have x6 := (heap_at HX9.out 6).trans (rfl : _ = some (Value.int .i64 x.val.k))
      have x7 := (heap_at HX9.out 7).trans (rfl : _ = some (Value.int .i64 x.val.i))
      have x8 := (heap_at HX9.out 8).trans (rfl : _ = some (Value.bool x.val.b))
      have x9 := (heap_at HX9.out 9).trans (rfl : _ = some (Value.string x.val.s))
      have x10 := (heap_at HX9.out 10).trans (rfl : _ = some (Value.float .f64 x.val.n))
      have x11 := (heap_at HX9.out 11).trans (rfl : _ = some (Value.slice none 0 0))
      have x12 := (heap_at HX9.out 12).trans (rfl : _ = some (Value.int .i64 ko))
      have vf := heap_free HZ9.out
      have xf := heap_free HX9.out
      have vl : w.heap.size < w9.heap.size := heap_ltZ HZ9.out
      have xl : bx < w9.heap.size := heap_ltZ HX9.out
      go_wp2
      exact bodyPost_ret (v := .tuple #[.agg #[.string nm, .int .i64 kf, .int .i64 kt, .int .i64 x.op, .slice A x.kids.length c, .string x.name, .int .i64 x.val.k, .int .i64 x.val.i, .bool x.val.b, .string x.val.s, .float .f64 x.val.n, .slice none 0 0, .int .i64 ko], .int .i64 er]) (by simp [results, Tryz.results106, go_sem, v0, v1, v2, v3, v4, v5, v6, v7, v8, v9, v10, v11, v12, vl]) rfl (by rw [HOKF.out]; exact ElP.err ⟨_, _, _, _, _, _, _, _, x.val, _, _, _, _, rfl⟩ HR9.out HO9.out HZ9.out (by decide) (Nat.le_refl _) hgz.symm ((((((((((((((Only.refl w.heap.size w9).set 0 _).set 1 _).set 2 _).set 3 _).set 4 _).set 5 _).set 6 _).set 7 _).set 8 _).set 9 _).set 10 _).set 11 _).set 12 _))
    · skip
      rw [hV] at hcall
      have HOKF := Lib.hid (show okM nm kf kt ko (.ok (x, n3, rx)) L = .ok (⟨nm, kf, kt, x, es, ko⟩, r5) from by unfold okM; simp only [hV])
      have HC := Lib.hid hcall
      clear hcall hV
      go_wp2_with fail
      refine HC.out.mono ?_
      rintro e w8 h8
      obtain ⟨EA, ec, rfl, hn, hrx, ho8⟩ := h8
      have hszx := heap_ltZ HX7.out
      have HX8 := Lib.hid (keepZ HX7.out ho8 hxg)
      have HZ8 := Lib.hid (keepZ HZ7.out ho8 hgz)
      have HO8 := Lib.hid (HO7.out.trans ho8)
      have HN8 := Lib.hid (ExS.move (keptOnly ho8 (fun b hb => by omega)) ho8.size HN7.out)
      clear HX7 HZ7 HO7 HR7 HN7
      dsimp only at hrx hn
      have HR8 := Lib.hid hrx
      have HM8 := Lib.hid (show EffN (fun b => bx < b) w8 EA ec es from EffN.move (keptMore fun b hb => by omega) (Nat.le_refl _) hn)
      clear hrx ho8 hn hszx HC
      have x11 := (heap_at HX8.out 11).trans (rfl : _ = some (Value.slice none 0 0))
      have xf := heap_free HX8.out
      have xl : bx < w8.heap.size := heap_ltZ HX8.out
      go_upto_region 7 with fail
      have hon : Only bx w8 (w8.setCell ⟨bx, 11, none⟩ (.slice EA es.length ec)) := (Only.set (Only.refl bx w8) 11 (.slice EA es.length ec))
      have HX9 := Lib.hid (show (w8.setCell ⟨bx, 11, none⟩ (.slice EA es.length ec)).heap[bx]? = some (.cells #[.string nm, .int .i64 kf, .int .i64 kt, .int .i64 x.op, .slice A x.kids.length c, .string x.name, .int .i64 x.val.k, .int .i64 x.val.i, .bool x.val.b, .string x.val.s, .float .f64 x.val.n, .slice EA es.length ec, .int .i64 ko] 61 (0, 0)) from (setZ HX8.out 11 (.slice EA es.length ec)))
      have HZ9 := Lib.hid (offZ HZ8.out hzx2 11 (.slice EA es.length ec))
      have HO9 := Lib.hid (Only.setNew HO8.out hbx 11 (.slice EA es.length ec))
      have HR9 := Lib.hid (HR8.out.offT hon hgx HX8.out (by decide))
      have HN9 := Lib.hid (ExS.move (keptOnly hon (fun b hb => by omega)) hon.size HN8.out)
      have HM9 := Lib.hid (EffN.move (keptOnly hon (fun b hb => by omega)) hon.size HM8.out)
      clear hon x11 xf xl HX8 HZ8 HO8 HR8 HN8 HM8
      generalize (w8.setCell ⟨bx, 11, none⟩ (.slice EA es.length ec)) = w9 at *
      have v0 := (heap_at HZ9.out 0).trans (rfl : _ = some (Value.string ⟨#[]⟩))
      have v1 := (heap_at HZ9.out 1).trans (rfl : _ = some (Value.int .i64 0))
      have v2 := (heap_at HZ9.out 2).trans (rfl : _ = some (Value.int .i64 0))
      have v3 := (heap_at HZ9.out 3).trans (rfl : _ = some (Value.int .i64 0))
      have v4 := (heap_at HZ9.out 4).trans (rfl : _ = some (Value.slice none 0 0))
      have v5 := (heap_at HZ9.out 5).trans (rfl : _ = some (Value.string ⟨#[]⟩))
      have v6 := (heap_at HZ9.out 6).trans (rfl : _ = some (Value.int .i64 0))
      have v7 := (heap_at HZ9.out 7).trans (rfl : _ = some (Value.int .i64 0))
      have v8 := (heap_at HZ9.out 8).trans (rfl : _ = some (Value.bool false))
      have v9 := (heap_at HZ9.out 9).trans (rfl : _ = some (Value.string ⟨#[]⟩))
      have v10 := (heap_at HZ9.out 10).trans (rfl : _ = some (Value.float .f64 0))
      have v11 := (heap_at HZ9.out 11).trans (rfl : _ = some (Value.slice none 0 0))
      have v12 := (heap_at HZ9.out 12).trans (rfl : _ = some (Value.int .i64 0))
      have x0 := (heap_at HX9.out 0).trans (rfl : _ = some (Value.string nm))
      have x1 := (heap_at HX9.out 1).trans (rfl : _ = some (Value.int .i64 kf))
      have x2 := (heap_at HX9.out 2).trans (rfl : _ = some (Value.int .i64 kt))
      have x3 := (heap_at HX9.out 3).trans (rfl : _ = some (Value.int .i64 x.op))
      have x4 := (heap_at HX9.out 4).trans (rfl : _ = some (Value.slice A x.kids.length c))
      have x5 := (heap_at HX9.out 5).trans (rfl : _ = some (Value.string x.name))
      have x6 := (heap_at HX9.out 6).trans (rfl : _ = some (Value.int .i64 x.val.k))
      have x7 := (heap_at HX9.out 7).trans (rfl : _ = some (Value.int .i64 x.val.i))
      have x8 := (heap_at HX9.out 8).trans (rfl : _ = some (Value.bool x.val.b))
      have x9 := (heap_at HX9.out 9).trans (rfl : _ = some (Value.string x.val.s))
      have x10 := (heap_at HX9.out 10).trans (rfl : _ = some (Value.float .f64 x.val.n))
      have x11 := (heap_at HX9.out 11).trans (rfl : _ = some (Value.slice EA es.length ec))
      have x12 := (heap_at HX9.out 12).trans (rfl : _ = some (Value.int .i64 ko))
      have vf := heap_free HZ9.out
      have xf := heap_free HX9.out
      have vl : w.heap.size < w9.heap.size := heap_ltZ HZ9.out
      have xl : bx < w9.heap.size := heap_ltZ HX9.out
      go_wp2
      exact bodyPost_ret (v := .tuple #[.agg #[.string nm, .int .i64 kf, .int .i64 kt, .int .i64 x.op, .slice A x.kids.length c, .string x.name, .int .i64 x.val.k, .int .i64 x.val.i, .bool x.val.b, .string x.val.s, .float .f64 x.val.n, .slice EA es.length ec, .int .i64 ko], .int .i64 0]) (by simp [results, Tryz.results106, go_sem, v0, v1, v2, v3, v4, v5, v6, v7, v8, v9, v10, v11, v12, vl]) rfl (by rw [HOKF.out]; exact ElP.fin mvkMv ⟨⟨nm, kf, kt, x, es, ko⟩, A, c, EA, ec⟩ (show ExS (fun b => w.heap.size < b) w9 6 A c x ∧ EffN (fun b => w.heap.size < b) w9 EA ec es from ⟨ExS.move (keptMore fun b hb => by omega) (Nat.le_refl _) HN9.out, EffN.move (keptMore fun b hb => by omega) (Nat.le_refl _) HM9.out⟩) HR9.out HO9.out HZ9.out (by decide) (Nat.le_refl _) hgz.symm ((((((((((((((Only.refl w.heap.size w9).set 0 _).set 1 _).set 2 _).set 3 _).set 4 _).set 5 _).set 6 _).set 7 _).set 8 _).set 9 _).set 10 _).set 11 _).set 12 _))
end Go.Proofs.YthgdnpcfdgimlabGreat

/- Layer 6: what is read of a contract: errors are none of nought, what is left is no longer. -/
namespace Go.Proofs.YthgdnpcfdgimlabGreat
open Go.RowKit
set_option linter.unusedVariables false
set_option linter.unusedSimpArgs false

theorem getXE_ne {rest : List UInt8} {e0 e : Int} (h : getXE rest e0 = .error e) : e ≠ 0 := by
  by_cases he : e0 = 0
  · subst he
    rw [show getXE rest 0 = getX 6 24 rest from if_pos rfl] at h
    exact getX_er 6 24 rest e h
  · rw [show getXE rest e0 = .error e0 from if_neg he] at h
    injection h with h
    exact h ▸ he
theorem getXE_len {rest : List UInt8} {e0 : Int} {x : Ex} {n : Int} {r' : List UInt8} (h : getXE rest e0 = .ok (x, n, r')) : r'.length ≤ rest.length := by
  by_cases he : e0 = 0
  · subst he
    rw [show getXE rest 0 = getX 6 24 rest from if_pos rfl] at h
    exact (getX_bd 6 24 rest x n r' (by decide) h).2.2
  · rw [show getXE rest e0 = .error e0 from if_neg he] at h
    cases h
theorem okVal_ne {er e : Int} {v : Vl} {r2 : List UInt8} (h : (if er = 0 then (Except.ok (v, r2) : Except Int (Vl × List UInt8)) else .error er) = .error e) : e ≠ 0 := by
  by_cases he : er = 0
  · rw [if_pos he] at h; cases h
  · rw [if_neg he] at h
    injection h with h
    exact h ▸ he
theorem okVal_len {er : Int} {v v2 : Vl} {r2 r' : List UInt8} (h : (if er = 0 then (Except.ok (v, r2) : Except Int (Vl × List UInt8)) else .error er) = .ok (v2, r')) : r' = r2 := by
  by_cases he : er = 0
  · rw [if_pos he] at h
    injection h with h
    injection h with h1 h
    exact h.symm
  · rw [if_neg he] at h; cases h
theorem gVal_ne {r : List UInt8} {e : Int} (h : gVal r = .error e) : e ≠ 0 := okVal_ne (er := getE r 0) (v := getV r 0) (r2 := (readF r 0).2.1) h
theorem gVal_len {r r' : List UInt8} {v : Vl} (h : gVal r = .ok (v, r')) : r'.length ≤ r.length := by
  rw [okVal_len (er := getE r 0) (v := getV r 0) (r2 := (readF r 0).2.1) h]
  exact readF_len r 0
theorem okF_ne {nm : ByteArray} {k : Int} {L : Except Int (List ByteArray × List UInt8)} {V : List UInt8 → Except Int (Vl × List UInt8)} {e : Int} (hL : ∀ e, L = .error e → e ≠ 0) (hV : ∀ r e, V r = .error e → e ≠ 0) (h : okF nm k L V = .error e) : e ≠ 0 := by
  unfold okF at h
  split at h
  · rename_i e1
    injection h with h
    exact h ▸ hL e1 rfl
  split at h
  · rename_i e1 h1
    injection h with h
    exact h ▸ hV _ e1 h1
  · cases h
theorem okF_len {nm : ByteArray} {k : Int} {L : Except Int (List ByteArray × List UInt8)} {V : List UInt8 → Except Int (Vl × List UInt8)} {x : Fld} {r' : List UInt8} {n : Nat} (hL : ∀ l r, L = .ok (l, r) → r.length ≤ n) (hV : ∀ r v r', V r = .ok (v, r') → r'.length ≤ r.length) (h : okF nm k L V = .ok (x, r')) : r'.length ≤ n := by
  unfold okF at h
  split at h
  · cases h
  rename_i en r
  split at h
  · cases h
  rename_i v r2 h2
  injection h with h
  injection h with h1 h
  subst h
  exact Nat.le_trans (hV _ _ _ h2) (hL _ _ rfl)
theorem okS_ne {nm : ByteArray} {k : Int} {L : Except Int (List Int × List UInt8)} {e : Int} (hL : ∀ e, L = .error e → e ≠ 0) (h : okS nm k L = .error e) : e ≠ 0 := by
  unfold okS at h
  split at h
  · rename_i e1
    injection h with h
    exact h ▸ hL e1 rfl
  · cases h
theorem okS_len {nm : ByteArray} {k : Int} {L : Except Int (List Int × List UInt8)} {x : Stg} {r' : List UInt8} {n : Nat} (hL : ∀ l r, L = .ok (l, r) → r.length ≤ n) (h : okS nm k L = .ok (x, r')) : r'.length ≤ n := by
  unfold okS at h
  split at h
  · cases h
  rename_i og r
  injection h with h
  injection h with h1 h
  subst h
  exact hL _ _ rfl
theorem okE_ne {nm : ByteArray} {X : Except Int (Ex × Int × List UInt8)} {e : Int} (hX : ∀ e, X = .error e → e ≠ 0) (h : okE nm X = .error e) : e ≠ 0 := by
  unfold okE at h
  split at h
  · rename_i e1
    injection h with h
    exact h ▸ hX e1 rfl
  · cases h
theorem okE_len {nm : ByteArray} {X : Except Int (Ex × Int × List UInt8)} {x : Eff} {r' : List UInt8} {n : Nat} (hX : ∀ x k r, X = .ok (x, k, r) → r.length ≤ n) (h : okE nm X = .ok (x, r')) : r'.length ≤ n := by
  unfold okE at h
  split at h
  · cases h
  rename_i y k r
  injection h with h
  injection h with h1 h
  subst h
  exact hX _ _ _ rfl
theorem okM_ne {nm : ByteArray} {f t o : Int} {X : Except Int (Ex × Int × List UInt8)} {L : List UInt8 → Except Int (List Eff × List UInt8)} {e : Int} (hX : ∀ e, X = .error e → e ≠ 0) (hL : ∀ r e, L r = .error e → e ≠ 0) (h : okM nm f t o X L = .error e) : e ≠ 0 := by
  unfold okM at h
  split at h
  · rename_i e1
    injection h with h
    exact h ▸ hX e1 rfl
  split at h
  · rename_i e1 h1
    injection h with h
    exact h ▸ hL _ e1 h1
  · cases h
theorem okM_len {nm : ByteArray} {f t o : Int} {X : Except Int (Ex × Int × List UInt8)} {L : List UInt8 → Except Int (List Eff × List UInt8)} {x : Mv} {r' : List UInt8} {n : Nat} (hX : ∀ x k r, X = .ok (x, k, r) → r.length ≤ n) (hL : ∀ r l r', L r = .ok (l, r') → r'.length ≤ r.length) (h : okM nm f t o X L = .ok (x, r')) : r'.length ≤ n := by
  unfold okM at h
  split at h
  · cases h
  rename_i y k r
  split at h
  · cases h
  rename_i es r2 h2
  injection h with h
  injection h with h1 h
  subst h
  exact Nat.le_trans (hL _ _ _ h2) (hX _ _ _ rfl)
theorem gFld_ne {r : List UInt8} {e : Int} (h : gFld r = .error e) : e ≠ 0 :=
  okF_ne (V := gVal) (fun e h => getS_ne gText (fun r e h => gText_ne h) _ e h) (fun r e h => gVal_ne h) h
theorem gFld_len {r r' : List UInt8} {x : Fld} (h : gFld r = .ok (x, r')) : r'.length ≤ r.length :=
  okF_len (V := gVal) (n := r.length) (fun l r2 h2 => Nat.le_trans (getS_len gText (fun r x r' h => gText_len h) _ _ _ l r2 h2) (Nat.le_trans (stepF_len 8 alInt _ _) (bytesF_len 16 r 0))) (fun r v r' h => gVal_len h) h
theorem gStg_ne {r : List UInt8} {e : Int} (h : gStg r = .error e) : e ≠ 0 :=
  okS_ne (fun e h => getS_ne gInt (fun r e h => gInt_ne h) _ e h) h
theorem gStg_len {r r' : List UInt8} {x : Stg} (h : gStg r = .ok (x, r')) : r'.length ≤ r.length :=
  okS_len (n := r.length) (fun l r2 h2 => Nat.le_trans (getS_len gInt (fun r x r' h => gInt_len h) _ _ _ l r2 h2) (Nat.le_trans (stepF_len 8 alInt _ _) (bytesF_len 16 r 0))) h
theorem gEff_ne {r : List UInt8} {e : Int} (h : gEff r = .error e) : e ≠ 0 := okE_ne (fun e h => getXE_ne h) h
theorem gEff_len {r r' : List UInt8} {x : Eff} (h : gEff r = .ok (x, r')) : r'.length ≤ r.length :=
  okE_len (n := r.length) (fun x k r2 h2 => Nat.le_trans (getXE_len h2) (bytesF_len 16 r 0)) h
theorem gEffs_ne {r : List UInt8} {e : Int} (h : gEffs r = .error e) : e ≠ 0 := getS_ne gEff (fun r e h => gEff_ne h) _ e h
theorem gEffs_len {r r' : List UInt8} {l : List Eff} (h : gEffs r = .ok (l, r')) : r'.length ≤ r.length := getS_len gEff (fun r x r' h => gEff_len h) _ _ _ l r' h
theorem gHead_len (r : List UInt8) : (gHead r).2.2.2.2.1.length ≤ r.length :=
  Nat.le_trans (stepF_len 8 alInt _ _) (Nat.le_trans (stepF_len 8 alInt _ _) (Nat.le_trans (stepF_len 8 alInt _ _) (bytesF_len 16 r 0)))
theorem gMv_ne {r : List UInt8} {e : Int} (h : gMv r = .error e) : e ≠ 0 :=
  okM_ne (L := gEffs) (fun e h => getXE_ne h) (fun r e h => gEffs_ne h) h
theorem gMv_len {r r' : List UInt8} {x : Mv} (h : gMv r = .ok (x, r')) : r'.length ≤ r.length :=
  okM_len (L := gEffs) (n := r.length) (fun x k r2 h2 => Nat.le_trans (getXE_len h2) (gHead_len r)) (fun r l r' h => gEffs_len h) h
theorem gLists_ne {nm : ByteArray} {F : Except Int (List Fld × List UInt8)} {S : List UInt8 → Except Int (List Stg × List UInt8)} {M : List UInt8 → Except Int (List Mv × List UInt8)} {e : Int} (hF : ∀ e, F = .error e → e ≠ 0) (hS : ∀ r e, S r = .error e → e ≠ 0) (hM : ∀ r e, M r = .error e → e ≠ 0) (h : gLists nm F S M = .error e) : e ≠ 0 := by
  unfold gLists at h
  split at h
  · rename_i e1
    injection h with h
    exact h ▸ hF e1 rfl
  split at h
  · rename_i e1 h1
    injection h with h
    exact h ▸ hS _ e1 h1
  split at h
  · rename_i e1 h1
    injection h with h
    exact h ▸ hM _ e1 h1
  · cases h
theorem gStgs_ne {r : List UInt8} {e : Int} (h : gStgs r = .error e) : e ≠ 0 := getS_ne gStg (fun r e h => gStg_ne h) _ e h
theorem gStgs_len {r r' : List UInt8} {l : List Stg} (h : gStgs r = .ok (l, r')) : r'.length ≤ r.length := getS_len gStg (fun r x r' h => gStg_len h) _ _ _ l r' h
theorem gMvs_ne {r : List UInt8} {e : Int} (h : gMvs r = .error e) : e ≠ 0 := getS_ne gMv (fun r e h => gMv_ne h) _ e h
theorem gFlds_ne {r : List UInt8} {e0 e : Int} (h : gFlds r e0 = .error e) : e ≠ 0 := getS_ne gFld (fun r e h => gFld_ne h) _ e h
theorem gFlds_len {r r' : List UInt8} {e0 : Int} {l : List Fld} (h : gFlds r e0 = .ok (l, r')) : r'.length ≤ r.length := getS_len gFld (fun r x r' h => gFld_len h) _ _ _ l r' h
theorem gCtr_ne {r : List UInt8} {e0 e : Int} (h : gCtr r e0 = .error e) : e ≠ 0 :=
  gLists_ne (S := gStgs) (M := gMvs) (fun e h => gFlds_ne h) (fun r e h => gStgs_ne h) (fun r e h => gMvs_ne h) h
end Go.Proofs.YthgdnpcfdgimlabGreat

/- Layer 6: Get by the program: its parts put together. -/
namespace Go.Proofs.YthgdnpcfdgimlabGreat
open Go.RowKit
set_option linter.unusedVariables false
set_option linter.unusedSimpArgs false
set_option maxRecDepth 20000

theorem getField_any (g : Nat) (rest : List UInt8) (w : World) (hr : RdR w g rest 0) (hlen : rest.length ≤ 1000000000000) :
    Calls Tryz.prog 102 #[.pointer (some ⟨g, 0, none⟩)] w (ElP BadFld g (fun q => .agg (FldX.cells q).toArray) FldX.f (fun S w q => FldX.ok S w q) (gFld rest) w) :=
  have l1 := bytesF_len 16 rest 0
  have l2 := stepF_len 8 alInt (bytesF 16 rest 0).2.1 (bytesF 16 rest 0).2.2
  getField_walk g rest _ _ 0 _ _ _ _ _ gVal w hr (fun W h => getName_any g rest 0 W h hlen) (fun W h => Int_any g _ _ W h)
    (fun W h => getTexts_any g 4 _ _ W h (Nat.le_trans l2 (Nat.le_trans l1 hlen)) (by omega))
    (fun W en r3 hL h => gVal_any g r3 W h (Nat.le_trans (getS_len gText (fun r x r' h => gText_len h) _ _ _ en r3 hL) (Nat.le_trans l2 (Nat.le_trans l1 hlen))))
    (fun er hL => getS_ne gText (fun r e h => gText_ne h) _ er hL)
theorem getStage_any (g : Nat) (rest : List UInt8) (w : World) (hr : RdR w g rest 0) (hlen : rest.length ≤ 1000000000000) :
    Calls Tryz.prog 104 #[.pointer (some ⟨g, 0, none⟩)] w (ElP BadStg g (fun q => .agg (StgX.cells q).toArray) StgX.s (fun S w q => StgX.ok S w q) (gStg rest) w) :=
  have l1 := bytesF_len 16 rest 0
  have l2 := stepF_len 8 alInt (bytesF 16 rest 0).2.1 (bytesF 16 rest 0).2.2
  getStage_walk g rest _ _ 0 _ _ _ _ _ w hr (fun W h => getName_any g rest 0 W h hlen) (fun W h => Int_any g _ _ W h)
    (fun W h => getInts_any g 4 _ _ W h (Nat.le_trans l2 (Nat.le_trans l1 hlen)) (by omega))
theorem getEffect_any (g : Nat) (rest : List UInt8) (w : World) (hr : RdR w g rest 0) (hlen : rest.length ≤ 1000000000000) :
    Calls Tryz.prog 148 #[.pointer (some ⟨g, 0, none⟩)] w (ElP BadEff g (fun q => .agg (EffX.cells q).toArray) EffX.e (fun S w q => EffX.ok S w q) (gEff rest) w) :=
  have l1 := bytesF_len 16 rest 0
  getEffect_walk g rest _ 0 _ _ _ w hr (fun W h => getName_any g rest 0 W h hlen) (fun W h => eGet_any g _ _ W h (Nat.le_trans l1 hlen))
theorem getEffects_any (g : Nat) (rest : List UInt8) (w : World) (hr : RdR w g rest 0) (hlen : rest.length ≤ 1000000000000) :
    Calls Tryz.prog 147 #[.pointer (some ⟨g, 0, none⟩), .int .i64 4, .func (Fn.func 148) #[] #[]] w (LsR g EffN (gEffs rest) w) :=
  (getL_Eff g 4 gEff rest 0 w hr hlen (by omega) (fun r W h hl => getEffect_any g r W h hl) (fun r er h => gEff_ne h) (fun r x r' h => gEff_len h)).mono fun e w' h => h.r (N := EffN) fun S T w' base n v qs ho hk hST hT => effN_own ho hk hST hT
end Go.Proofs.YthgdnpcfdgimlabGreat

/- Layer 6: Get by the program: its parts put together. -/
namespace Go.Proofs.YthgdnpcfdgimlabGreat
open Go.RowKit
set_option linter.unusedVariables false
set_option linter.unusedSimpArgs false
set_option maxRecDepth 20000

theorem getMove_any (g : Nat) (rest : List UInt8) (w : World) (hr : RdR w g rest 0) (hlen : rest.length ≤ 1000000000000) :
    Calls Tryz.prog 106 #[.pointer (some ⟨g, 0, none⟩)] w (ElP BadMv g (fun q => .agg (MvX.cells q).toArray) MvX.m (fun S w q => MvX.ok S w q) (gMv rest) w) :=
  have l1 := gHead_len rest
  getMove_walk g rest _ _ _ _ 0 _ _ _ _ _ _ _ _ _ gEffs w hr (fun W h => getName_any g rest 0 W h hlen) (fun W h => Int_any g _ _ W h) (fun W h => Int_any g _ _ W h) (fun W h => Int_any g _ _ W h)
    (fun W h => eGet_any g _ _ W h (Nat.le_trans l1 hlen))
    (fun W x n r hX h => getEffects_any g r W h (Nat.le_trans (getXE_len hX) (Nat.le_trans l1 hlen)))
    (fun er hX => getXE_ne hX)
theorem getContract_any (g : Nat) (rest : List UInt8) (e0 : Int) (w : World) (hr : RdR w g rest e0) (hlen : rest.length ≤ 1000000000000) :
    Calls Tryz.prog 59 #[.pointer (some ⟨g, 0, none⟩)] w (ElP BadCt g (fun q => .agg (CtX.cells q).toArray) CtX.c (fun S w q => CtX.ok S w q) (gCtr rest e0) w) :=
  have l1 := bytesF_len 16 rest e0
  getContract_walk g rest _ e0 _ _ _ gStgs gMvs w hr (fun W h => getName_any g rest e0 W h hlen)
    (fun W h => (getL_Fld g 6 gFld _ _ W h (Nat.le_trans l1 hlen) (by omega) (fun r W h hl => getField_any g r W h hl) (fun r er h => gFld_ne h) (fun r x r' h => gFld_len h)).mono fun e w' h => h.r (N := FldN) fun S T w' base n v qs ho hk hST hT => fldN_own ho hk hST hT)
    (fun W l r hF h => (getL_Stg g 6 gStg r 0 W h (Nat.le_trans (gFlds_len hF) (Nat.le_trans l1 hlen)) (by omega) (fun r W h hl => getStage_any g r W h hl) (fun r er h => gStg_ne h) (fun r x r' h => gStg_len h)).mono fun e w' h => h.r (N := StgN) fun S T w' base n v qs ho hk hST hT => stgN_own ho hk hST hT)
    (fun W l r l2 r2 hF hS h => (getL_Mv g 8 gMv r2 0 W h (Nat.le_trans (gStgs_len hS) (Nat.le_trans (gFlds_len hF) (Nat.le_trans l1 hlen))) (by omega) (fun r W h hl => getMove_any g r W h hl) (fun r er h => gMv_ne h) (fun r x r' h => gMv_len h)).mono fun e w' h => h.r (N := MvN) fun S T w' base n v qs ho hk hST hT => mvN_own ho hk hST hT)
    (fun er h => gFlds_ne h) (fun r er h => gStgs_ne h)
/-- 6.2, by the program -/
theorem cGet_any (g : Nat) (rest : List UInt8) (e0 : Int) (w : World) (hr : RdR w g rest e0) (hlen : rest.length ≤ 1000000000000) :
    Calls Tryz.prog 23 #[.pointer (some ⟨g, 0, none⟩)] w (CgP g (getC rest e0) w) :=
  cGet_walk g rest e0 (gCtr rest e0) (fun er h => gCtr_ne h) w hr fun W h => getContract_any g rest e0 W h hlen
end Go.Proofs.YthgdnpcfdgimlabGreat

/- Layer 6: ContractBack. (Made by gen/gencback.py.) -/
namespace Go.Proofs.YthgdnpcfdgimlabGreat
open Go.RowKit
set_option linter.unusedVariables false
set_option linter.unusedSimpArgs false
set_option maxRecDepth 20000

theorem putC_some {c : Ctr} (hok : okC c) (h : checkC c = 0) : 0 < (putC c).length ∧ (putC c).length ≤ 1000000 := by
  rw [show putC c = ctrB c from if_pos h]
  refine ⟨?_, Nat.le_trans (CtrS.le (ctr_short hok h)) (by decide)⟩
  unfold ctrB texB
  simp only [List.length_append, be_length]
  omega
set_option maxHeartbeats 8000000 in
theorem ContractBack_any (ct : Ctr) (FA : Option Addr) (fc : Nat) (SA : Option Addr) (sc : Nat) (MA : Option Addr) (mc : Nat) (bv : Value) (bl : List UInt8) (w : World) (h : CtK w ct FA fc SA sc MA mc) (hok : okC ct) (hb : Bs w bv bl) (awk : ∀ W, Calls Tryz.prog 12 #[] W (VMk (.bool true) W)) :
    Calls Tryz.prog 7 #[agC ct.name FA ct.fs.length fc SA ct.ss.length sc MA ct.ms.length mc, bv] w (VMk (.bool true) w) := by
  obtain ⟨i0, hi, hz0, hz1, hz2⟩ := info_parts u8info
  have hsf := fun (w : World) (a : Addr) (m : Mode) (b : Nat) => run_store Tryz.prog w a (.float .f64 b) m rfl
  have HB0 := Lib.hid (alloc1 w (bxC ct.name FA ct.fs.length fc SA ct.ss.length sc MA ct.ms.length mc))
  have HC0 := Lib.hid (BxA.new w (csC ct.name FA ct.fs.length fc SA ct.ss.length sc MA ct.ms.length mc) 26)
  have FEW := Lib.hid (fun W (hb : Below w.heap.size w W) => few6_any ct FA fc SA sc MA mc W (h.below hb))
  have AWK := Lib.hid awk
  have C1 := Lib.hid (fun W (hb : Below w.heap.size w W) => cCheck_any ct FA fc SA sc MA mc W (h.below hb))
  have P1 := Lib.hid (fun W (hb : Below w.heap.size w W) => (cPut_any ct FA fc SA sc MA mc (.slice none 0 0) [] W (h.below hb) hok (Bs.nil W) (by simp)).mono fun e w' h => h.bs)
  have HBV := Lib.hid hb
  have hno : checkC ct ≠ 0 → putC ct = [] := fun hc => if_neg hc
  have hsome := fun (hc : checkC ct = 0) => putC_some hok hc
  have hback := fun (hc : checkC ct = 0) => getC_back ct bl hok hc
  have hnc := checkC_norm ct
  have hnp := putC_norm ct
  have hno2 := okC_norm hok
  obtain ⟨bA, bc2, rfl, -⟩ := hb.open
  clear h awk hok hb
  generalize hdn : normC ct = dn at *
  generalize checkC ct = r at *
  generalize putC ct = pc at *
  have HNO := Lib.hid hno
  have HSOME := Lib.hid hsome
  have HBACK := Lib.hid hback
  have HNC := Lib.hid hnc
  have HNP := Lib.hid hnp
  have HNO2 := Lib.hid hno2
  clear hno hsome hback hnc hnp hno2 hdn
  go_enter Tryz.func7, Tryz.ntmps7
  go_wp2_with fail
  refine (FEW.out _ HB0.out).mono ?_
  rintro _ w1 ⟨bb, rfl, hb1⟩
  have HB1 := Lib.hid (bel2 HB0.out hb1)
  have HC1 := Lib.hid (HC0.out.below (by simpa using hb1))
  clear hb1 FEW HC0 HB0
  rcases bb with _ | _
  · go_wp2
    go_ret
    exact ⟨rfl, HB1.out⟩
  by_cases h30 : (1000 : Int) < (bl.length : Int)
  · have hd : decide ((1000 : Int) < (bl.length : Int)) = true := decide_eq_true h30
    go_wp2
    go_ret
    exact ⟨rfl, HB1.out⟩
  have hd : decide ((1000 : Int) < (bl.length : Int)) = false := decide_eq_false h30
  have HLB := Lib.hid h30
  have c0 := HC1.out.2 0 _ rfl
  have c1 := HC1.out.2 1 _ rfl
  have c2 := HC1.out.2 2 _ rfl
  have c3 := HC1.out.2 3 _ rfl
  go_wp2_with fail
  refine (P1.out _ HB1.out).mono ?_
  rintro _ w2 ⟨v2, rfl, hv2, hb2⟩
  rw [List.nil_append] at hv2
  obtain ⟨pA, pcap, rfl, -⟩ := hv2.open
  have HV2 := Lib.hid hv2
  have HB2 := Lib.hid (bel2 HB1.out hb2)
  have HC2 := Lib.hid (HC1.out.below hb2)
  clear hb2 hv2 c0 c1 c2 c3 HC1 HB1 hd h30 P1
  have c0 := HC2.out.2 0 _ rfl
  have c1 := HC2.out.2 1 _ rfl
  have c2 := HC2.out.2 2 _ rfl
  have c3 := HC2.out.2 3 _ rfl
  go_wp2_with fail
  refine (C1.out _ HB2.out).mono ?_
  rintro _ w3 ⟨rfl, hb3⟩
  have HB3 := Lib.hid (bel2 HB2.out hb3)
  have HV3 := Lib.hid (Rd.below HV2.out hb3 (Nat.le_refl _))
  clear hb3 c0 c1 c2 c3 HC2 HB2 HV2 C1
  by_cases hr : r = 0
  · subst hr
    have hrb : (((0 : Int)) != 0) = false := rfl
    obtain ⟨hs1, hs2⟩ := HSOME.out rfl
    have HBK := Lib.hid (HBACK.out rfl)
    have HS2 := Lib.hid hs2
    have hpl : (0 : Int) < (pc.length : Int) := by omega
    clear HNO HSOME HBACK hs1 hs2
    go_upto_region 6 with fail
    obtain ⟨w4, hw4⟩ : ∃ x, x = w3 := ⟨_, rfl⟩
    subst hw4
    have HO0 := Lib.hid (own_none w4 5 1)
    have HA0 := Lib.hid (alloc1 w4 (.cells #[] 5))
    have HVa := Lib.hid (Rd.below HV3.out HA0.out (Nat.le_refl _))
    have hq1 : 0 + (pc.map bc).length ≤ maxLen := by have := HS2.out; simp only [List.length_map]; unfold maxLen; omega
    have hq2 : (0 + (pc.map bc).length) * 1 ≤ 140737488355328 := by have := HS2.out; simp only [List.length_map]; omega
    have hq3 : pc.length + (bl.map bc).length ≤ maxLen := by have := HS2.out; have := HLB.out; simp only [List.length_map]; unfold maxLen; omega
    have hq4 : (pc.length + (bl.map bc).length) * 1 ≤ 140737488355328 := by have := HS2.out; have := HLB.out; simp only [List.length_map]; omega
    have HQ := Lib.hid (And.intro hq1 (And.intro hq2 (And.intro hq3 hq4)))
    have hln : (pc ++ bl).length ≤ 2000000 := by have := HS2.out; have := HLB.out; rw [List.length_append]; omega
    have HLN := Lib.hid hln
    have HBVw := Lib.hid (Rd.below HBV.out HB3.out (Nat.le_refl _))
    clear hq1 hq2 hq3 hq4 hln HBV
    go_wp2_with (first
      | (at_builtin; refine wpList_append_rd _ rfl _ _ 34 rfl w4.heap.size 5 i0 (.int .u8 0) 1 Tryz.underlying34 hi hz0 hz1 hz2 rfl _ _ _ rfl HO0.out _ _ rfl HVa.out (bc_one pc) HQ.out.1 HQ.out.2.1 HA0.out.size ?_; intro v5 w5 hown5 hgr5; have HB5 := Lib.hid (HA0.out.grown hgr5 HA0.out.size (fun k hk => (HO0.out.lt k hk).1)); have HO5 := Lib.hid (show w5.ownsRow w4.heap.size 5 1 v5 pc.length (pc.map bc) from by simpa using hown5); clear hown5 hgr5)
      | (at_builtin; refine wpList_append_rd _ rfl _ _ 34 rfl w4.heap.size 5 i0 (.int .u8 0) 1 Tryz.underlying34 hi hz0 hz1 hz2 rfl _ _ _ rfl HO5.out _ _ rfl (Rd.below HBVw.out HB5.out (Nat.le_refl _)) (bc_one bl) HQ.out.2.2.1 HQ.out.2.2.2 HB5.out.size ?_; intro v6 w6 hown6 hgr6; have HB6 := Lib.hid (HB5.out.grown hgr6 HB5.out.size (fun k hk => (HO5.out.lt k hk).1)); rw [← List.map_append] at hown6; have HV6 := Lib.hid (own_nilrow (w' := w6) hown6); clear hown6 hgr6))
    refine (New_any v6 (pc ++ bl) w6 HV6.out (by have := HLN.out; omega)).mono ?_
    rintro _ w7 ⟨g, rfl, hg6, hr7, hb7⟩
    have HB7 := Lib.hid (HB6.out.trans (hb7.mono HB6.out.size))
    have HG6 := Lib.hid (Nat.le_trans HB6.out.size hg6)
    have hget := cGet_any g (pc ++ bl) 0 w7 hr7 (by have := HLN.out; omega)
    rw [HBK.out] at hget
    have HGET := Lib.hid (show Calls _ _ _ _ (CgO g (dn, bl) w7) from hget)
    clear hg6 hr7 hb7 hget HBK
    go_wp2_with fail
    refine HGET.out.mono ?_
    rintro _ w8 ⟨FA2, fc2, SA2, sc2, MA2, mc2, rfl, hel, hr8, ho8⟩
    dsimp only at hr8 hel
    have HB8 := Lib.hid (HB7.out.trans (ho8.to_below HB7.out.size HG6.out))
    have hk9 := BxA.new w8 (csC dn.name FA2 dn.fs.length fc2 SA2 dn.ss.length sc2 MA2 dn.ms.length mc2) 26
    have ha9 := alloc1 w8 (bxC dn.name FA2 dn.fs.length fc2 SA2 dn.ss.length sc2 MA2 dn.ms.length mc2)
    have HK9 := Lib.hid hk9
    have HX9 := Lib.hid ((CtX.ctk (S := fun b => w7.heap.size ≤ b) (q := ⟨dn, FA2, fc2, SA2, sc2, MA2, mc2⟩) hel).below ha9)
    have HR9 := Lib.hid (hr8.below ha9)
    have HB9 := Lib.hid (HB8.out.trans (ha9.mono HB8.out.size))
    clear hel hr8 ho8 hk9 ha9 HGET
    go_upto_region 8 with fail
    generalize w8.alloc (.cells #[.string dn.name, .slice FA2 dn.fs.length fc2, .slice SA2 dn.ss.length sc2, .slice MA2 dn.ms.length mc2] 26) = w9 at *
    generalize w8.heap.size = b9 at *
    have h00 : ((0 : Int) == 0) = true := rfl
    have hbb : ((bl.length : Int) == (bl.length : Int)) = true := by simp
    have hpd : decide ((0 : Int) < (pc.length : Int)) = true := decide_eq_true hpl
    have x0 := HK9.out.2 0 _ rfl
    have x1 := HK9.out.2 1 _ rfl
    have x2 := HK9.out.2 2 _ rfl
    have x3 := HK9.out.2 3 _ rfl
    go_wp2_with fail
    refine (Left_any g bl 0 w9 HR9.out).mono ?_
    rintro _ w' ⟨rfl, rfl⟩
    go_wp2_with fail
    refine (cPut_any dn FA2 fc2 SA2 sc2 MA2 mc2 (.slice none 0 0) [] w9 HX9.out HNO2.out (Bs.nil w9) (by simp)).mono fun e w' h => ?_
    obtain ⟨v10, rfl, hv10, hb10⟩ := h.bs
    rw [List.nil_append, HNP.out] at hv10
    have HV10 := Lib.hid hv10
    have HK10 := Lib.hid (HK9.out.below hb10)
    have HX10 := Lib.hid (HX9.out.below hb10)
    have HB10 := Lib.hid (HB9.out.trans (hb10.mono HB9.out.size))
    clear h hv10 hb10 x0 x1 x2 x3
    go_wp2_with fail
    have hsm := Same_any v10 (.slice pA pc.length pcap) pc pc w' HV10.out (Rd.below HV3.out HB10.out (Nat.le_refl _))
    rw [beq_self_eq_true] at hsm
    have HSM := Lib.hid hsm
    clear hsm
    refine HSM.out.mono ?_
    rintro _ w11 ⟨rfl, hw11⟩
    have HB11 := Lib.hid (show Below w'.heap.size w' w11 from hw11 ▸ Below.refl _ _)
    clear hw11
    have HK11 := Lib.hid (HK10.out.below HB11.out)
    have x0 := HK11.out.2 0 _ rfl
    have x1 := HK11.out.2 1 _ rfl
    have x2 := HK11.out.2 2 _ rfl
    have x3 := HK11.out.2 3 _ rfl
    have hck := cCheck_any dn FA2 fc2 SA2 sc2 MA2 mc2 w11 (HX10.out.below HB11.out)
    rw [HNC.out] at hck
    have HCK := Lib.hid hck
    clear hck
    go_wp2_with fail
    refine HCK.out.mono ?_
    rintro _ w12 ⟨rfl, hb12⟩
    have HB12 := Lib.hid (HB10.out.trans ((bel2 HB11.out hb12).mono HB10.out.size))
    clear hb12 x0 x1 x2 x3
    go_wp2_with fail
    refine (AWK.out _).mono ?_
    rintro _ w13 ⟨rfl, hb13⟩
    go_wp2
    go_ret
    exact ⟨rfl, bel2 HB3.out (HB12.out.trans (hb13.mono HB12.out.size))⟩
  · have hrb : (r != 0) = true := by simpa using hr
    have hpc := HNO.out hr
    subst hpc
    have h00 : ((0 : Int) == 0) = true := rfl
    go_wp2_with fail
    refine (AWK.out _).mono ?_
    rintro _ w4 ⟨rfl, hb4⟩
    go_wp2
    go_ret
    exact ⟨rfl, bel2 HB3.out hb4⟩
end Go.Proofs.YthgdnpcfdgimlabGreat
