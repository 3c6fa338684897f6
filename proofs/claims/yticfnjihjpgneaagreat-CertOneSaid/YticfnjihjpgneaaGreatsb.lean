/- sb: GDef GDef2 StoreRow LDef MMem MArgs MArgs2 (made by shake.py). -/
import Derived.Deep.MidRow
import Derived.Test.YticfnjihjpgneaaGreatsa
namespace Go.Proofs.YticfnjihjpgneaaGreat
open Go.RowKit
set_option linter.unusedVariables false
set_option linter.unusedSimpArgs false
set_option maxRecDepth 20000

abbrev Crt := (Int × List UInt8) × List (Int × List UInt8)
structure Msg where
  k : Int
  v : Int
  s : Int
  c : Int
  t : Int
  d : List UInt8
  x : List UInt8
  r : Int × Int
  b : List (Int × List UInt8)
  p : List (Int × List UInt8)
  q : List Crt
  deriving DecidableEq
structure Shp where
  v : Int × Int
  s : Int × Int
  c : Int × Int
  t : Int × Int
  d : Int × Int
  x : Int × Int
  r : Bool
  b : Int × Int
  p : Int × Int
  q : Int × Int
def shapeM (k : Int) : Shp × Bool :=
  if k = 2 then (⟨(0, 1099511627776), (1, 1099511627776), (0, 0), (0, 0), (0, 9223372036854775807), (0, 0), false, (0, 4), (0, 0), (0, 0)⟩, true)
  else if k = 3 then (⟨(0, 1099511627776), (1, 1099511627776), (0, 0), (0, 0), (0, 9223372036854775807), (0, 0), false, (0, 0), (0, 0), (0, 0)⟩, true)
  else if k = 4 then (⟨(0, 1099511627776), (1, 1099511627776), (0, 0), (0, 0), (0, 9223372036854775807), (0, 0), false, (0, 0), (0, 0), (0, 0)⟩, true)
  else if k = 5 then (⟨(0, 0), (1, 1099511627776), (0, 0), (0, 0), (0, 9223372036854775807), (0, 0), false, (0, 0), (0, 0), (0, 0)⟩, true)
  else if k = 1 then (⟨(0, 0), (0, 0), (0, 1099511627776), (1, 1099511627776), (0, 0), (0, 4096), false, (0, 0), (0, 0), (0, 0)⟩, true)
  else if k = 8 then (⟨(0, 1099511627776), (0, 0), (0, 1099511627776), (1, 1099511627776), (0, 0), (0, 0), true, (0, 0), (0, 0), (0, 0)⟩, true)
  else if k = 6 then (⟨(1, 1099511627776), (0, 1099511627776), (0, 0), (0, 0), (0, 0), (0, 0), false, (0, 7), (0, 0), (0, 8)⟩, true)
  else if k = 7 then (⟨(1, 1099511627776), (0, 0), (0, 0), (0, 0), (0, 0), (0, 0), false, (0, 7), (0, 8), (0, 0)⟩, true)
  else if k = 9 then (⟨(0, 0), (0, 1099511627776), (0, 0), (0, 0), (0, 0), (0, 0), false, (0, 0), (0, 0), (0, 0)⟩, true)
  else if k = 10 then (⟨(0, 0), (0, 0), (0, 0), (0, 0), (0, 0), (0, 0), false, (0, 0), (0, 0), (1, 1)⟩, true)
  else if k = 11 then (⟨(0, 0), (1, 1099511627776), (0, 0), (0, 0), (0, 0), (0, 9223372036854775807), false, (0, 7), (0, 0), (0, 0)⟩, true)
  else (⟨(0, 0), (0, 0), (0, 0), (0, 0), (0, 0), (0, 0), false, (0, 0), (0, 0), (0, 0)⟩, false)
def countB (b : Int × Int) : Bool := decide (0 < b.2)
def allowB (b : Int × Int) (n : Int) : Bool := decide (b.1 ≤ n) && decide (n ≤ b.2)
def wellE (e : Int × List UInt8) : Bool := allowB (0, 1099511627776) e.1
def eachE (l : List (Int × List UInt8)) (b : Int × Int) : Bool := allowB b (l.length : Nat) && l.all wellE
def wellC (c : Crt) : Bool := wellE c.1 && eachE c.2 (0, 7)
def eachC (l : List Crt) (b : Int × Int) : Bool := allowB b (l.length : Nat) && l.all wellC
def noRes (s : Shp) (r : Int × Int) : Bool := s.r || (decide (r.1 = 0) && decide (r.2 = 0))
def fitsM (s : Shp) (m : Msg) : Bool :=
  allowB s.v m.v && allowB s.s m.s && allowB s.c m.c && allowB s.t m.t && allowB s.d (m.d.length : Nat) && allowB s.x (m.x.length : Nat) && noRes s m.r && eachE m.b s.b && eachE m.p s.p && eachC m.q s.q
def checkM (m : Msg) : Bool := (shapeM m.k).2 && fitsM (shapeM m.k).1 m

/- bytes -/
def numP (b : Int × Int) (n : Int) : List UInt8 := if countB b = true then i8B n else []
def rowP (b : Int × Int) (l : List UInt8) : List UInt8 := if countB b = true then partB l else []
def resP (y : Bool) (r : Int × Int) : List UInt8 := if y = true then i8B r.1 ++ i8B r.2 else []
def envW (e : Int × List UInt8) : List UInt8 := i8B e.1 ++ partB e.2
def lisP {α : Type} (f : α → List UInt8) (b : Int × Int) (l : List α) : List UInt8 := if countB b = true then be 4 l.length ++ l.flatMap f else []
def crtW (c : Crt) : List UInt8 := envW c.1 ++ lisP envW (0, 7) c.2
def partsM (s : Shp) (m : Msg) : List (List UInt8) := [i8B m.k, numP s.v m.v, numP s.s m.s, numP s.c m.c, numP s.t m.t, rowP s.d m.d, rowP s.x m.x, resP s.r m.r, lisP envW s.b m.b, lisP envW s.p m.p, lisP crtW s.q m.q]
def putM (m : Msg) : List UInt8 := (partsM (shapeM m.k).1 m).flatten
def encM (m : Msg) : List UInt8 := if checkM m = true then putM m else []

/- reading -/
abbrev Rdg (α : Type) := List UInt8 → Int → α × List UInt8 × Int
def numG (b : Int × Int) : Rdg Int := fun rest e => if countB b = true then int8F rest e else (0, rest, e)
def rowG (b : Int × Int) : Rdg (List UInt8) := fun rest e => if countB b = true then bytesF b.2 rest e else ([], rest, e)
def resG (y : Bool) : Rdg (Int × Int) := fun rest e => if y = true then ((int8F rest e).1, (int8F (int8F rest e).2.1 (int8F rest e).2.2).1, (int8F (int8F rest e).2.1 (int8F rest e).2.2).2) |> fun z => ((z.1, z.2.1), z.2.2) else ((0, 0), rest, e)
def envG : Rdg (Int × List UInt8) := fun rest e => (((int8F rest e).1, (bytesL (int8F rest e).2.1 (int8F rest e).2.2).1), (bytesL (int8F rest e).2.1 (int8F rest e).2.2).2)
def timesG {α : Type} (G : Rdg α) : Nat → Rdg (List α)
  | 0, rest, e => ([], rest, e)
  | n + 1, rest, e => ((G rest e).1 :: (timesG G n (G rest e).2.1 (G rest e).2.2).1, (timesG G n (G rest e).2.1 (G rest e).2.2).2)
def cntG (b : Int × Int) (rest : List UInt8) (e : Int) : Nat × List UInt8 × Int := stepF 4 (alCount b.2) rest e
def lisG {α : Type} (G : Rdg α) (b : Int × Int) : Rdg (List α) := fun rest e => if countB b = true then timesG G (cntG b rest e).1 (cntG b rest e).2.1 (cntG b rest e).2.2 else ([], rest, e)
def crtG : Rdg Crt := fun rest e => (((envG rest e).1, (lisG envG (0, 7) (envG rest e).2.1 (envG rest e).2.2).1), (lisG envG (0, 7) (envG rest e).2.1 (envG rest e).2.2).2)
def thenG {α β : Type} (G : Rdg α) (F : α → Rdg β) : Rdg β := fun rest e => F (G rest e).1 (G rest e).2.1 (G rest e).2.2
def retG {α : Type} (a : α) : Rdg α := fun rest e => (a, rest, e)
def bodyG (k : Int) (s : Shp) : Rdg Msg :=
  thenG (numG s.v) fun v => thenG (numG s.s) fun n => thenG (numG s.c) fun c => thenG (numG s.t) fun t => thenG (rowG s.d) fun d => thenG (rowG s.x) fun x => thenG (resG s.r) fun r =>
    thenG (lisG envG s.b) fun b => thenG (lisG envG s.p) fun p => thenG (lisG crtG s.q) fun q => retG ⟨k, v, n, c, t, d, x, r, b, p, q⟩
def readM : Rdg Msg := thenG int8F fun k => bodyG k (shapeM k).1
def msg0 : Msg := ⟨0, 0, 0, 0, 0, [], [], (0, 0), [], [], []⟩
def gotM (y : List UInt8) : Bool := decide (endE (readM y 0).2.1 (readM y 0).2.2 = 0) && checkM (readM y 0).1
def decM (y : List UInt8) : Msg × Int := if 16777216 < y.length then (msg0, 11) else if gotM y = true then ((readM y 0).1, 0) else (msg0, 12)

/- forth: what was put is read; back: what is read was put -/
def Fo {α : Type} (G : Rdg α) (x : List UInt8) (a : α) : Prop := ∀ rest, G (x ++ rest) 0 = (a, rest, 0)
def Bk {α : Type} (G : Rdg α) (P : α → List UInt8) : Prop := ∀ rest e, (G rest e).2.2 = 0 → e = 0 ∧ rest = P (G rest e).1 ++ (G rest e).2.1
theorem Fo.then {α β : Type} {G : Rdg α} {F : α → Rdg β} {x y : List UInt8} {a : α} {b : β} (h : Fo G x a) (h2 : Fo (F a) y b) : Fo (thenG G F) (x ++ y) b := fun rest => by
  unfold thenG
  rw [List.append_assoc, h (y ++ rest)]
  exact h2 rest
theorem Fo.ret {α : Type} (a : α) : Fo (retG a) [] a := fun rest => rfl
theorem Bk.then {α β : Type} {G : Rdg α} {F : α → Rdg β} {P : α → List UInt8} {Q : α → β → List UInt8} (h : Bk G P) (h2 : ∀ a, Bk (F a) (Q a)) (rest : List UInt8) (e : Int) (h3 : (thenG G F rest e).2.2 = 0) :
    e = 0 ∧ rest = P (G rest e).1 ++ (Q (G rest e).1 (thenG G F rest e).1 ++ (thenG G F rest e).2.1) := by
  obtain ⟨h4, h5⟩ := h2 (G rest e).1 _ _ h3
  obtain ⟨h6, h7⟩ := h rest e h4
  exact ⟨h6, h7.trans (congrArg (P (G rest e).1 ++ ·) h5)⟩

def OkBd (b : Int × Int) : Prop := 0 ≤ b.1 ∧ b.2 ≤ 9223372036854775807
theorem count_of {b : Int × Int} (hb : OkBd b) {n : Int} (h : allowB b n = true) : (countB b = true ∧ in64B n) ∨ (¬ countB b = true ∧ n = 0) := by
  unfold allowB at h
  unfold countB in64B
  obtain ⟨h1, h2⟩ := hb
  simp only [Bool.and_eq_true, decide_eq_true_eq] at h ⊢
  omega
theorem num_fo {b : Int × Int} (hb : OkBd b) {n : Int} (h : allowB b n = true) : Fo (numG b) (numP b n) n := fun rest => by
  unfold numG numP
  rcases count_of hb h with ⟨h1, h2⟩ | ⟨h1, rfl⟩
  · rw [if_pos h1, if_pos h1]
    exact int8F_put n h2 rest
  · rw [if_neg h1, if_neg h1]
    rfl
theorem num_bk (b : Int × Int) : Bk (numG b) (numP b) := fun rest e h => by
  unfold numG at h ⊢
  unfold numP
  by_cases h1 : countB b = true
  · rw [if_pos h1] at h ⊢
    rw [if_pos h1]
    exact int8F_ok h
  · rw [if_neg h1] at h ⊢
    rw [if_neg h1]
    exact ⟨h, rfl⟩
theorem bytesF_fo (most : Int) (l rest : List UInt8) (hl : l.length < 4294967296) (hm : (l.length : Int) ≤ most) : bytesF most (partB l ++ rest) 0 = (l, rest, 0) := by
  have h1 : stepF 4 (alCount most) (partB l ++ rest) 0 = (l.length, l ++ rest, 0) := by
    unfold partB
    rw [List.append_assoc]
    exact stepF_be 4 _ _ _ (by omega) (by unfold alCount ceilE; rw [if_neg (by omega)])
  have h5 : (partB l ++ rest).drop 4 = l ++ rest := by
    unfold partB
    rw [List.append_assoc, List.drop_left' (be_length 4 _)]
  have := bytesF_good most (partB l ++ rest) (by rw [h1]) (by rw [h1]; simp only [List.length_append, partB_length]; omega)
  rw [this, h1, h5]
  simp
theorem bytesF_bk {most : Int} {rest : List UInt8} {e : Int} (h : (bytesF most rest e).2.2 = 0) : e = 0 ∧ rest = partB (bytesF most rest e).1 ++ (bytesF most rest e).2.1 := by
  by_cases h0 : (stepF 4 (alCount most) rest e).2.2 = 0
  · obtain ⟨rfl, h1, -, h5⟩ := stepF8_ok h0
    refine ⟨rfl, ?_⟩
    by_cases h2 : (rest.drop 4).length < wordN (rest.take 4)
    · exact absurd h (bytesF_fail _ _ (Or.inr h2))
    have := bytesF_good most rest h0 (by rw [h5]; simp only; rw [List.length_drop] at h2; omega)
    rw [this, h5]
    simp only
    have hl : ((rest.drop 4).take (wordN (rest.take 4))).length = wordN (rest.take 4) := by rw [List.length_take]; omega
    unfold partB
    rw [hl, be_take4 rest h1, List.append_assoc, List.take_append_drop, List.take_append_drop]
  · rw [bytesF_err _ _ _ h0] at h
    exact absurd h h0
theorem row_fo {b : Int × Int} (hb : OkBd b) {l : List UInt8} (hl : l.length < 4294967296) (h : allowB b (l.length : Nat) = true) : Fo (rowG b) (rowP b l) l := fun rest => by
  unfold rowG rowP
  rcases count_of hb h with ⟨h1, h2⟩ | ⟨h1, h2⟩
  · rw [if_pos h1, if_pos h1]
    refine bytesF_fo _ l rest hl ?_
    unfold allowB at h
    simp only [Bool.and_eq_true, decide_eq_true_eq] at h
    exact h.2
  · rw [if_neg h1, if_neg h1]
    rw [List.eq_nil_of_length_eq_zero (show l.length = 0 by omega)]
    rfl
theorem row_bk (b : Int × Int) : Bk (rowG b) (rowP b) := fun rest e h => by
  unfold rowG at h ⊢
  unfold rowP
  by_cases h1 : countB b = true
  · rw [if_pos h1] at h ⊢
    rw [if_pos h1]
    exact bytesF_bk h
  · rw [if_neg h1] at h ⊢
    rw [if_neg h1]
    exact ⟨h, rfl⟩
theorem res_fo {y : Bool} {r : Int × Int} (hr : in64B r.1 ∧ in64B r.2) (h : y = true ∨ r = (0, 0)) : Fo (resG y) (resP y r) r := fun rest => by
  unfold resG resP
  by_cases h1 : y = true
  · rw [if_pos h1, if_pos h1, List.append_assoc, int8F_put _ hr.1]
    simp only [int8F_put _ hr.2]
  · rw [if_neg h1, if_neg h1]
    rcases h with h | h
    · exact absurd h h1
    · rw [h]; rfl
theorem res_bk (y : Bool) : Bk (resG y) (resP y) := fun rest e h => by
  unfold resG at h ⊢
  unfold resP
  by_cases h1 : y = true
  · rw [if_pos h1] at h ⊢
    rw [if_pos h1]
    obtain ⟨h2, e2⟩ := int8F_ok h
    obtain ⟨h3, e3⟩ := int8F_ok h2
    refine ⟨h3, ?_⟩
    simp only [List.append_assoc]
    rw [← e2, ← e3]
  · rw [if_neg h1] at h ⊢
    rw [if_neg h1]
    exact ⟨h, rfl⟩
theorem env_fo {e : Int × List UInt8} (h : in64B e.1) (hl : e.2.length ≤ 100000) : Fo envG (envW e) e := fun rest => by
  unfold envG envW
  rw [List.append_assoc, int8F_put _ h, bytesL_put _ _ hl]
theorem env_bk : Bk envG envW := fun rest e h => by
  unfold envG at h ⊢
  unfold envW
  obtain ⟨h2, e2⟩ := bytesL_ok h
  obtain ⟨h3, e3⟩ := int8F_ok h2
  refine ⟨h3, ?_⟩
  simp only [List.append_assoc]
  rw [← e2, ← e3]
theorem times_fo {α : Type} {G : Rdg α} {f : α → List UInt8} : ∀ (l : List α), (∀ a ∈ l, Fo G (f a) a) → ∀ rest, timesG G l.length (l.flatMap f ++ rest) 0 = (l, rest, 0)
  | [], _, rest => rfl
  | a :: l, h, rest => by
    have ih := times_fo l (fun b hb => h b (List.mem_cons_of_mem _ hb)) rest
    rw [List.flatMap_cons, List.append_assoc, List.length_cons, timesG, h a List.mem_cons_self]
    simp only [ih]
theorem times_len {α : Type} (G : Rdg α) : ∀ (n : Nat) (rest : List UInt8) (e : Int), (timesG G n rest e).1.length = n
  | 0, _, _ => rfl
  | n + 1, rest, e => by
    rw [timesG, List.length_cons, times_len G n]
theorem times_bk {α : Type} {G : Rdg α} {f : α → List UInt8} (h : Bk G f) : ∀ (n : Nat) (rest : List UInt8) (e : Int), (timesG G n rest e).2.2 = 0 → e = 0 ∧ rest = (timesG G n rest e).1.flatMap f ++ (timesG G n rest e).2.1
  | 0, _, _, h0 => ⟨h0, rfl⟩
  | n + 1, rest, e, h0 => by
    rw [timesG] at h0 ⊢
    obtain ⟨h1, e1⟩ := times_bk h n _ _ h0
    obtain ⟨h2, e2⟩ := h rest e h1
    refine ⟨h2, ?_⟩
    simp only [List.flatMap_cons, List.append_assoc]
    rw [← e1, ← e2]
theorem lis_fo {α : Type} {G : Rdg α} {f : α → List UInt8} {b : Int × Int} (hb : OkBd b) {l : List α} (hl : l.length < 4294967296) (h : allowB b (l.length : Nat) = true) (hG : ∀ a ∈ l, Fo G (f a) a) : Fo (lisG G b) (lisP f b l) l := fun rest => by
  unfold lisG lisP
  rcases count_of hb h with ⟨h1, h2⟩ | ⟨h1, h2⟩
  · rw [if_pos h1, if_pos h1]
    have h3 : cntG b (be 4 l.length ++ l.flatMap f ++ rest) 0 = (l.length, l.flatMap f ++ rest, 0) := by
      unfold cntG
      rw [List.append_assoc]
      refine stepF_be 4 _ _ _ (by omega) ?_
      unfold allowB at h
      simp only [Bool.and_eq_true, decide_eq_true_eq] at h
      unfold alCount ceilE
      rw [if_neg (by omega)]
    rw [h3]
    exact times_fo l hG rest
  · rw [if_neg h1, if_neg h1]
    rw [List.eq_nil_of_length_eq_zero (show l.length = 0 by omega)]
    rfl
theorem lis_bk {α : Type} {G : Rdg α} {f : α → List UInt8} (h : Bk G f) (b : Int × Int) : Bk (lisG G b) (lisP f b) := fun rest e h0 => by
  unfold lisG at h0 ⊢
  unfold lisP
  by_cases h1 : countB b = true
  · rw [if_pos h1] at h0 ⊢
    rw [if_pos h1]
    obtain ⟨h2, e2⟩ := times_bk h _ _ _ h0
    obtain ⟨rfl, h3, -, e3⟩ := stepF8_ok (show (stepF 4 (alCount b.2) rest e).2.2 = 0 from h2)
    refine ⟨rfl, ?_⟩
    have h4 : (cntG b rest 0).1 = wordN (rest.take 4) := by unfold cntG; rw [e3]
    have h5 : (cntG b rest 0).2.1 = rest.drop 4 := by unfold cntG; rw [e3]
    rw [times_len, h4, be_take4 rest h3, List.append_assoc]
    rw [h4] at e2
    rw [← e2, h5, List.take_append_drop]
  · rw [if_neg h1] at h0 ⊢
    rw [if_neg h1]
    exact ⟨h0, rfl⟩
theorem crt_bk : Bk crtG crtW := fun rest e h => by
  unfold crtG at h ⊢
  unfold crtW
  obtain ⟨h2, e2⟩ := lis_bk env_bk (0, 7) _ _ h
  obtain ⟨h3, e3⟩ := env_bk _ _ h2
  refine ⟨h3, ?_⟩
  simp only [List.append_assoc]
  rw [← e2, ← e3]
def BkC {α : Type} (G : Rdg α) (P : α → List UInt8) (C : α → Prop) : Prop := ∀ rest e, (G rest e).2.2 = 0 → e = 0 ∧ rest = P (G rest e).1 ++ (G rest e).2.1 ∧ C (G rest e).1
theorem bk_then {α β : Type} {G : Rdg α} {F : α → Rdg β} {P : α → List UInt8} (R : β → List UInt8) (D : β → Prop) (Q : α → β → List UInt8) (C : α → β → Prop) (h : Bk G P) (h2 : ∀ a, BkC (F a) (Q a) (C a)) (hR : ∀ a b, C a b → R b = P a ++ Q a b ∧ D b) : BkC (thenG G F) R D := fun rest e h3 => by
  obtain ⟨h4, h5, h6⟩ := h2 (G rest e).1 _ _ h3
  obtain ⟨h7, h8⟩ := h rest e h4
  obtain ⟨h9, h10⟩ := hR _ _ h6
  refine ⟨h7, ?_, h10⟩
  show rest = R (F (G rest e).1 (G rest e).2.1 (G rest e).2.2).1 ++ (F (G rest e).1 (G rest e).2.1 (G rest e).2.2).2.1
  rw [h9, List.append_assoc]
  exact h8.trans (congrArg (P (G rest e).1 ++ ·) h5)
theorem bk_ret {α : Type} (a : α) : BkC (retG a) (fun _ => []) (fun b => b = a) := fun rest e h => ⟨h, rfl, rfl⟩
theorem body_bk (k : Int) (s : Shp) : BkC (bodyG k s) (fun m => numP s.v m.v ++ (numP s.s m.s ++ (numP s.c m.c ++ (numP s.t m.t ++ (rowP s.d m.d ++ (rowP s.x m.x ++ (resP s.r m.r ++ (lisP envW s.b m.b ++ (lisP envW s.p m.p ++ (lisP crtW s.q m.q ++ [])))))))))) (fun m => m.k = k) := by
  unfold bodyG
  refine bk_then (fun m : Msg => numP s.v m.v ++ (numP s.s m.s ++ (numP s.c m.c ++ (numP s.t m.t ++ (rowP s.d m.d ++ (rowP s.x m.x ++ (resP s.r m.r ++ (lisP envW s.b m.b ++ (lisP envW s.p m.p ++ (lisP crtW s.q m.q ++ [])))))))))) (fun m => m.k = k) (fun _ m => numP s.s m.s ++ (numP s.c m.c ++ (numP s.t m.t ++ (rowP s.d m.d ++ (rowP s.x m.x ++ (resP s.r m.r ++ (lisP envW s.b m.b ++ (lisP envW s.p m.p ++ (lisP crtW s.q m.q ++ []))))))))) (fun v m => m.k = k ∧ m.v = v) (num_bk s.v) (fun v => ?_) (fun v m h => ⟨by simp only [h], by simp only [h, and_self]⟩)
  refine bk_then (fun m : Msg => numP s.s m.s ++ (numP s.c m.c ++ (numP s.t m.t ++ (rowP s.d m.d ++ (rowP s.x m.x ++ (resP s.r m.r ++ (lisP envW s.b m.b ++ (lisP envW s.p m.p ++ (lisP crtW s.q m.q ++ []))))))))) (fun m => m.k = k ∧ m.v = v) (fun _ m => numP s.c m.c ++ (numP s.t m.t ++ (rowP s.d m.d ++ (rowP s.x m.x ++ (resP s.r m.r ++ (lisP envW s.b m.b ++ (lisP envW s.p m.p ++ (lisP crtW s.q m.q ++ [])))))))) (fun n m => m.k = k ∧ m.v = v ∧ m.s = n) (num_bk s.s) (fun n => ?_) (fun n m h => ⟨by simp only [h], by simp only [h, and_self]⟩)
  refine bk_then (fun m : Msg => numP s.c m.c ++ (numP s.t m.t ++ (rowP s.d m.d ++ (rowP s.x m.x ++ (resP s.r m.r ++ (lisP envW s.b m.b ++ (lisP envW s.p m.p ++ (lisP crtW s.q m.q ++ [])))))))) (fun m => m.k = k ∧ m.v = v ∧ m.s = n) (fun _ m => numP s.t m.t ++ (rowP s.d m.d ++ (rowP s.x m.x ++ (resP s.r m.r ++ (lisP envW s.b m.b ++ (lisP envW s.p m.p ++ (lisP crtW s.q m.q ++ []))))))) (fun c m => m.k = k ∧ m.v = v ∧ m.s = n ∧ m.c = c) (num_bk s.c) (fun c => ?_) (fun c m h => ⟨by simp only [h], by simp only [h, and_self]⟩)
  refine bk_then (fun m : Msg => numP s.t m.t ++ (rowP s.d m.d ++ (rowP s.x m.x ++ (resP s.r m.r ++ (lisP envW s.b m.b ++ (lisP envW s.p m.p ++ (lisP crtW s.q m.q ++ []))))))) (fun m => m.k = k ∧ m.v = v ∧ m.s = n ∧ m.c = c) (fun _ m => rowP s.d m.d ++ (rowP s.x m.x ++ (resP s.r m.r ++ (lisP envW s.b m.b ++ (lisP envW s.p m.p ++ (lisP crtW s.q m.q ++ [])))))) (fun t m => m.k = k ∧ m.v = v ∧ m.s = n ∧ m.c = c ∧ m.t = t) (num_bk s.t) (fun t => ?_) (fun t m h => ⟨by simp only [h], by simp only [h, and_self]⟩)
  refine bk_then (fun m : Msg => rowP s.d m.d ++ (rowP s.x m.x ++ (resP s.r m.r ++ (lisP envW s.b m.b ++ (lisP envW s.p m.p ++ (lisP crtW s.q m.q ++ [])))))) (fun m => m.k = k ∧ m.v = v ∧ m.s = n ∧ m.c = c ∧ m.t = t) (fun _ m => rowP s.x m.x ++ (resP s.r m.r ++ (lisP envW s.b m.b ++ (lisP envW s.p m.p ++ (lisP crtW s.q m.q ++ []))))) (fun d m => m.k = k ∧ m.v = v ∧ m.s = n ∧ m.c = c ∧ m.t = t ∧ m.d = d) (row_bk s.d) (fun d => ?_) (fun d m h => ⟨by simp only [h], by simp only [h, and_self]⟩)
  refine bk_then (fun m : Msg => rowP s.x m.x ++ (resP s.r m.r ++ (lisP envW s.b m.b ++ (lisP envW s.p m.p ++ (lisP crtW s.q m.q ++ []))))) (fun m => m.k = k ∧ m.v = v ∧ m.s = n ∧ m.c = c ∧ m.t = t ∧ m.d = d) (fun _ m => resP s.r m.r ++ (lisP envW s.b m.b ++ (lisP envW s.p m.p ++ (lisP crtW s.q m.q ++ [])))) (fun x m => m.k = k ∧ m.v = v ∧ m.s = n ∧ m.c = c ∧ m.t = t ∧ m.d = d ∧ m.x = x) (row_bk s.x) (fun x => ?_) (fun x m h => ⟨by simp only [h], by simp only [h, and_self]⟩)
  refine bk_then (fun m : Msg => resP s.r m.r ++ (lisP envW s.b m.b ++ (lisP envW s.p m.p ++ (lisP crtW s.q m.q ++ [])))) (fun m => m.k = k ∧ m.v = v ∧ m.s = n ∧ m.c = c ∧ m.t = t ∧ m.d = d ∧ m.x = x) (fun _ m => lisP envW s.b m.b ++ (lisP envW s.p m.p ++ (lisP crtW s.q m.q ++ []))) (fun r m => m.k = k ∧ m.v = v ∧ m.s = n ∧ m.c = c ∧ m.t = t ∧ m.d = d ∧ m.x = x ∧ m.r = r) (res_bk s.r) (fun r => ?_) (fun r m h => ⟨by simp only [h], by simp only [h, and_self]⟩)
  refine bk_then (fun m : Msg => lisP envW s.b m.b ++ (lisP envW s.p m.p ++ (lisP crtW s.q m.q ++ []))) (fun m => m.k = k ∧ m.v = v ∧ m.s = n ∧ m.c = c ∧ m.t = t ∧ m.d = d ∧ m.x = x ∧ m.r = r) (fun _ m => lisP envW s.p m.p ++ (lisP crtW s.q m.q ++ [])) (fun b m => m.k = k ∧ m.v = v ∧ m.s = n ∧ m.c = c ∧ m.t = t ∧ m.d = d ∧ m.x = x ∧ m.r = r ∧ m.b = b) (lis_bk env_bk s.b) (fun b => ?_) (fun b m h => ⟨by simp only [h], by simp only [h, and_self]⟩)
  refine bk_then (fun m : Msg => lisP envW s.p m.p ++ (lisP crtW s.q m.q ++ [])) (fun m => m.k = k ∧ m.v = v ∧ m.s = n ∧ m.c = c ∧ m.t = t ∧ m.d = d ∧ m.x = x ∧ m.r = r ∧ m.b = b) (fun _ m => lisP crtW s.q m.q ++ []) (fun p m => m.k = k ∧ m.v = v ∧ m.s = n ∧ m.c = c ∧ m.t = t ∧ m.d = d ∧ m.x = x ∧ m.r = r ∧ m.b = b ∧ m.p = p) (lis_bk env_bk s.p) (fun p => ?_) (fun p m h => ⟨by simp only [h], by simp only [h, and_self]⟩)
  refine bk_then (fun m : Msg => lisP crtW s.q m.q ++ []) (fun m => m.k = k ∧ m.v = v ∧ m.s = n ∧ m.c = c ∧ m.t = t ∧ m.d = d ∧ m.x = x ∧ m.r = r ∧ m.b = b ∧ m.p = p) (fun _ m => []) (fun q m => m = ⟨k, v, n, c, t, d, x, r, b, p, q⟩) (lis_bk crt_bk s.q) (fun q => ?_) (fun q m h => by subst h; exact ⟨rfl, rfl, rfl, rfl, rfl, rfl, rfl, rfl, rfl, rfl, rfl⟩)
  exact bk_ret _
theorem put_eq (s : Shp) (m : Msg) : (partsM s m).flatten = i8B m.k ++ (numP s.v m.v ++ (numP s.s m.s ++ (numP s.c m.c ++ (numP s.t m.t ++ (rowP s.d m.d ++ (rowP s.x m.x ++ (resP s.r m.r ++ (lisP envW s.b m.b ++ (lisP envW s.p m.p ++ (lisP crtW s.q m.q ++ [])))))))))) := by
  unfold partsM
  simp only [List.flatten_cons, List.flatten_nil]
theorem read_bkC : BkC readM putM (fun _ => True) := by
  unfold readM
  refine bk_then putM (fun _ => True) (fun k m => numP (shapeM k).1.v m.v ++ (numP (shapeM k).1.s m.s ++ (numP (shapeM k).1.c m.c ++ (numP (shapeM k).1.t m.t ++ (rowP (shapeM k).1.d m.d ++ (rowP (shapeM k).1.x m.x ++ (resP (shapeM k).1.r m.r ++ (lisP envW (shapeM k).1.b m.b ++ (lisP envW (shapeM k).1.p m.p ++ (lisP crtW (shapeM k).1.q m.q ++ [])))))))))) (fun k m => m.k = k) (fun _ _ h => int8F_ok h) (fun k => ?_) (fun k m h => ⟨?_, trivial⟩)
  · exact body_bk k _
  · subst h
    exact put_eq (shapeM m.k).1 m
theorem read_bk : Bk readM putM := fun rest e h => ⟨(read_bkC rest e h).1, (read_bkC rest e h).2.1⟩
theorem shape_bd (k : Int) : OkBd (shapeM k).1.v ∧ OkBd (shapeM k).1.s ∧ OkBd (shapeM k).1.c ∧ OkBd (shapeM k).1.t ∧ OkBd (shapeM k).1.d ∧ OkBd (shapeM k).1.x ∧ OkBd (shapeM k).1.b ∧ OkBd (shapeM k).1.p ∧ OkBd (shapeM k).1.q := by
  unfold shapeM OkBd
  repeat' split
  all_goals decide

structure OkM (m : Msg) : Prop where
  k : in64B m.k
  v : in64B m.v
  s : in64B m.s
  c : in64B m.c
  t : in64B m.t
  r : in64B m.r.1 ∧ in64B m.r.2
  b : ∀ e ∈ m.b, in64B e.1
  p : ∀ e ∈ m.p, in64B e.1
  q : ∀ c ∈ m.q, in64B c.1.1 ∧ ∀ e ∈ c.2, in64B e.1
structure MidM (m : Msg) : Prop where
  d : m.d.length ≤ 20000000
  x : m.x.length ≤ 20000000
  b : m.b.length ≤ 100 ∧ ∀ e ∈ m.b, e.2.length ≤ 100000
  p : m.p.length ≤ 100 ∧ ∀ e ∈ m.p, e.2.length ≤ 100000
  q : m.q.length ≤ 100 ∧ ∀ c ∈ m.q, c.1.2.length ≤ 100000 ∧ c.2.length ≤ 100 ∧ ∀ e ∈ c.2, e.2.length ≤ 100000
structure OkS (sh : Shp) : Prop where
  v : OkBd sh.v
  s : OkBd sh.s
  c : OkBd sh.c
  t : OkBd sh.t
  d : OkBd sh.d
  x : OkBd sh.x
  b : OkBd sh.b ∧ sh.b.2 ≤ 8
  p : OkBd sh.p ∧ sh.p.2 ≤ 8
  q : OkBd sh.q ∧ sh.q.2 ≤ 8
theorem shape_sm (k : Int) : (shapeM k).1.b.2 ≤ 8 ∧ (shapeM k).1.p.2 ≤ 8 ∧ (shapeM k).1.q.2 ≤ 8 := by
  unfold shapeM
  repeat' split
  all_goals decide
theorem shape_ok (k : Int) : OkS (shapeM k).1 := by
  obtain ⟨s1, s2, s3, s4, s5, s6, s7, s8, s9⟩ := shape_bd k
  obtain ⟨t1, t2, t3⟩ := shape_sm k
  exact ⟨s1, s2, s3, s4, s5, s6, ⟨s7, t1⟩, ⟨s8, t2⟩, ⟨s9, t3⟩⟩
structure FitS (sh : Shp) (m : Msg) : Prop where
  v : allowB sh.v m.v = true
  s : allowB sh.s m.s = true
  c : allowB sh.c m.c = true
  t : allowB sh.t m.t = true
  d : allowB sh.d (m.d.length : Nat) = true
  x : allowB sh.x (m.x.length : Nat) = true
  r : sh.r = true ∨ m.r = (0, 0)
  b : allowB sh.b (m.b.length : Nat) = true ∧ ∀ e ∈ m.b, wellE e = true
  p : allowB sh.p (m.p.length : Nat) = true ∧ ∀ e ∈ m.p, wellE e = true
  q : allowB sh.q (m.q.length : Nat) = true ∧ ∀ c ∈ m.q, wellC c = true
theorem each_split {l : List (Int × List UInt8)} {b : Int × Int} (h : eachE l b = true) : allowB b (l.length : Nat) = true ∧ ∀ e ∈ l, wellE e = true := by
  unfold eachE at h
  rw [Bool.and_eq_true, List.all_eq_true] at h
  exact h
theorem eachC_split {l : List Crt} {b : Int × Int} (h : eachC l b = true) : allowB b (l.length : Nat) = true ∧ ∀ e ∈ l, wellC e = true := by
  unfold eachC at h
  rw [Bool.and_eq_true, List.all_eq_true] at h
  exact h
theorem noRes_split {s : Shp} {r : Int × Int} (h : noRes s r = true) : s.r = true ∨ r = (0, 0) := by
  unfold noRes at h
  rw [Bool.or_eq_true, Bool.and_eq_true, decide_eq_true_eq, decide_eq_true_eq] at h
  rcases h with h | ⟨h1, h2⟩
  · exact .inl h
  · exact .inr (Prod.ext h1 h2)
theorem fit_of {s : Shp} {m : Msg} (hc : fitsM s m = true) : FitS s m := by
  unfold fitsM at hc
  simp only [Bool.and_eq_true] at hc
  obtain ⟨⟨⟨⟨⟨⟨⟨⟨⟨c1, c2⟩, c3⟩, c4⟩, c5⟩, c6⟩, c7⟩, c8⟩, c9⟩, c10⟩ := hc
  exact ⟨c1, c2, c3, c4, c5, c6, noRes_split c7, each_split c8, each_split c9, eachC_split c10⟩
theorem check_fit {m : Msg} (hc : checkM m = true) : FitS (shapeM m.k).1 m := by
  unfold checkM at hc
  rw [Bool.and_eq_true] at hc
  exact fit_of hc.2
theorem flat_le {α : Type} (f : α → List UInt8) : ∀ (l : List α) (a : α), a ∈ l → (f a).length ≤ (l.flatMap f).length
  | [], a, h => by cases h
  | x :: l, a, h => by
    rw [List.flatMap_cons, List.length_append]
    rcases List.mem_cons.1 h with rfl | h
    · omega
    · have := flat_le f l a h; omega
theorem lis_le {α : Type} (f : α → List UInt8) {b : Int × Int} (hb : OkBd b) {l : List α} (h : allowB b (l.length : Nat) = true) (a : α) (ha : a ∈ l) : (f a).length ≤ (lisP f b l).length := by
  unfold lisP
  rcases count_of hb h with ⟨h1, -⟩ | ⟨h1, h2⟩
  · rw [if_pos h1, List.length_append]
    have := flat_le f l a ha
    omega
  · rw [List.eq_nil_of_length_eq_zero (show l.length = 0 by omega)] at ha
    cases ha
theorem env_le (e : Int × List UInt8) : e.2.length ≤ (envW e).length := by
  unfold envW
  rw [List.length_append, partB_length]; omega
theorem allow_le {b : Int × Int} {n : Int} (h : allowB b n = true) : n ≤ b.2 := by
  unfold allowB at h
  simp only [Bool.and_eq_true, decide_eq_true_eq] at h
  exact h.2
theorem in64_0 : in64B 0 := ⟨by decide, by decide⟩
/- the laws -/
theorem dec_enc {y : List UInt8} (h : (decM y).2 = 0) : encM (decM y).1 = y := by
  unfold decM at h ⊢
  by_cases h1 : 16777216 < y.length
  · rw [if_pos h1] at h; exact absurd h (by decide)
  rw [if_neg h1] at h ⊢
  by_cases h2 : gotM y = true
  · rw [if_pos h2]
    unfold gotM at h2
    simp only [Bool.and_eq_true, decide_eq_true_eq] at h2
    unfold encM
    rw [if_pos h2.2]
    have h3 : (readM y 0).2.2 = 0 ∧ (readM y 0).2.1 = [] := by
      have h4 := h2.1
      unfold endE at h4
      by_cases h5 : (readM y 0).2.2 = 0 ∧ (readM y 0).2.1 ≠ []
      · rw [if_pos h5] at h4; exact absurd h4 (by decide)
      · rw [if_neg h5] at h4
        exact ⟨h4, Decidable.not_not.1 fun h6 => h5 ⟨h4, h6⟩⟩
    have h4 := (read_bk y 0 h3.1).2
    rw [h3.2, List.append_nil] at h4
    exact h4.symm
  · rw [if_neg h2] at h; exact absurd h (by decide)
theorem dec_ok {y : List UInt8} (h : (decM y).2 = 0) : checkM (decM y).1 = true ∧ ∀ rest, readM (y ++ rest) 0 = readM (y ++ rest) 0 := by
  refine ⟨?_, fun _ => rfl⟩
  unfold decM at h ⊢
  by_cases h1 : 16777216 < y.length
  · rw [if_pos h1] at h; exact absurd h (by decide)
  rw [if_neg h1] at h ⊢
  by_cases h2 : gotM y = true
  · rw [if_pos h2]
    unfold gotM at h2
    simp only [Bool.and_eq_true] at h2
    exact h2.2
  · rw [if_neg h2] at h; exact absurd h (by decide)

theorem only_setRow (w : World) (b : Nat) (cs : Array Value) : Only b w (w.setRow b cs) :=
  ⟨rfl, rfl, rfl, by simp, fun k hk h1 => setRow_other w b k cs fun e => h1 (by rw [e])⟩
theorem wp_store_row {op : Oper} {a : Act} {w : World} {K : Act → World → Prop} {Q : Exit → Act → World → Prop} (ty : TypeId) (x y : Operand) (ho : op.op = .store ty x y)
    (b : Nat) (cells cur : Array Value) (hx : a.eval x = .pointer (some ⟨b, 0, none⟩)) (hy : a.eval y = .agg cells)
    (hh : w.heap[b]? = some (.cells cur ty (0, 0))) (hs : cur.size = cells.size) (hi : (Tryz.prog.info? ty).map (·.size) = some cells.size) (h1 : cells.all (·.oneCell') = true)
    (h : K (a.put op.dst undef) (w.setRow b cells)) : op.wp Tryz.prog a w K Q := by
  unfold Oper.wp execOp
  simp only [ho, hx, hy, Instr.storeAt, Instr.sureAddr, Sem.run_bind, Sem.run_pure, Result.andThen_ok, run_storeVar_row _ _ ty ty cur cells hh hi hs h1]
  exact h
theorem wpList_store_row {ops : Array Oper} {rest : List Oper} {op : Oper} {a : Act} {w : World} {Q : Exit → Act → World → Prop} (hgd : op.guard = none) (ty : TypeId) (x y : Operand) (ho : op.op = .store ty x y)
    (b : Nat) (cells cur : Array Value) (hx : a.eval x = .pointer (some ⟨b, 0, none⟩)) (hy : a.eval y = .agg cells)
    (hh : w.heap[b]? = some (.cells cur ty (0, 0))) (hs : cur.size = cells.size) (hi : (Tryz.prog.info? ty).map (·.size) = some cells.size) (h1 : cells.all (·.oneCell') = true)
    (h : wpList Tryz.prog ops Q rest (a.put op.dst undef) (w.setRow b cells)) : wpList Tryz.prog ops Q (op :: rest) a w :=
  wpList_plain hgd fun _ hK => wp_store_row ty x y ho b cells cur hx hy hh hs hi h1 (hK _ _ h)

structure Ldg where
  base : Int
  dig : List UInt8
  bl : List Blk
def hdrL (b : Blk) : List UInt8 := digB b.h b.prev (leavesB b).length (rootB b)
def topL (L : Ldg) : Int := L.base + L.bl.length
def atL (L : Ldg) : Nat → List UInt8
  | 0 => L.dig
  | n + 1 => (L.bl[n]?.map hdrL).getD []
def headL (L : Ldg) : List UInt8 := atL L L.bl.length
theorem atL_succ {L : Ldg} {n : Nat} (h : n < L.bl.length) : atL L (n + 1) = hdrL L.bl[n] := by
  show (L.bl[n]?.map hdrL).getD [] = _
  rw [List.getElem?_eq_getElem h]
  rfl
structure GoodL (K : Nat) (L : Ldg) : Prop where
  b : 0 ≤ L.base ∧ topL L ≤ 1099511627776
  n : L.bl.length * 21000 ≤ K
  d : L.dig.length ≤ K
  q : ∀ x ∈ L.bl, FewQ x ∧ OkB x ∧ checkB x = 0 ∧ x.prev.length ≤ K ∧ (hdrL x).length ≤ K
theorem GoodL.at {K : Nat} {L : Ldg} (h : GoodL K L) (n : Nat) : (atL L n).length ≤ K := by
  rcases n with _ | n
  · exact h.d
  · by_cases hn : n < L.bl.length
    · rw [atL_succ hn]
      exact (h.q _ (List.getElem_mem hn)).2.2.2.2
    · show ((L.bl[n]?.map hdrL).getD []).length ≤ K
      rw [List.getElem?_eq_none (Nat.le_of_not_lt hn)]
      exact Nat.zero_le _
theorem GoodL.head {K : Nat} {L : Ldg} (h : GoodL K L) : (headL L).length ≤ K := h.at _
theorem GoodL.mono {K K' : Nat} {L : Ldg} (h : GoodL K L) (hk : K ≤ K') : GoodL K' L :=
  ⟨h.b, Nat.le_trans h.n hk, Nat.le_trans h.d hk, fun x hx => by obtain ⟨h1, h2, h3, h4, h5⟩ := h.q x hx; exact ⟨h1, h2, h3, Nat.le_trans h4 hk, Nat.le_trans h5 hk⟩⟩

def RowMs (w : World) (size : Nat) (y : Value) (m : Nat) (news : List Value) : Prop :=
  ∃ A c, y = .slice A m c ∧ news.length = m * size ∧ (A = none → m = 0 ∧ c = 0) ∧ ∀ a, A = some a → ∀ j u, news[j]? = some u → w.cell? (a.add j) = some u
theorem RowMs.below {w w' : World} {size : Nat} {y : Value} {m : Nat} {news : List Value} (h : RowMs w size y m news) (hb : Below w.heap.size w w') : RowMs w' size y m news := by
  obtain ⟨A, c, e, h1, h2, h3⟩ := h
  refine ⟨A, c, e, h1, h2, fun a ha j u hj => ?_⟩
  have h4 := h3 a ha j u hj
  have hl := World.block_lt_of_cell? w _ h4
  exact (hb.cell hl).trans h4
section
variable {P : Program} {w : World}
theorem run_append_rowsM (base : Nat) (t ty e : TypeId) (i : TypeInfo) (z : Value) (size bytes : Nat) (ht : P.underlying t = some (.slice e)) (hi : P.info? e = some i) (hz : i.zero = some z)
    (hsize : i.size = size) (hby : i.bytes = bytes) (hzs : z.cells.size = size) (hpos : 0 < size)
    (v : Value) (n : Nat) (xs : List Value) (hown : w.ownsRow base e size v n xs)
    (y : Value) (m : Nat) (news : List Value) (hr : RowMs w size y m news) (h1 : ∀ u ∈ news, u.oneCell' = true)
    (h63 : n + m ≤ maxLen) (hbytes : (n + m) * bytes ≤ 140737488355328) (hbase : base ≤ w.heap.size) :
    ∃ v' w', (Builtin.append_ #[t, t] ty #[v, y]).run P w = .ok v' w' ∧ w'.ownsRow base e size v' (n + m) (xs ++ news) ∧ w.grownBy w' v.ownBlock ∧
      (v'.ownBlock = v.ownBlock ∨ v'.ownBlock = some w.heap.size) := by
  obtain ⟨A, c, rfl, hl, hn, hx⟩ := hr
  rcases A with _ | ad
  · obtain ⟨rfl, rfl⟩ := hn rfl
    have : news = [] := List.eq_nil_of_length_eq_zero (by omega)
    subst this
    exact ⟨v, w, run_append_nothing w base t ty e i size ht hi v n xs hown 0, by simpa using hown, World.grownBy.refl w _, .inl rfl⟩
  · obtain ⟨v', w', hrun, h2, h3, _, h5⟩ := run_append_own_at (P := P) w base t ty e i z size bytes ht hi hz hsize hby hzs hpos v n xs hown ad m c news hl (hx ad rfl) h1 h63 hbytes hbase
    exact ⟨v', w', hrun, h2, h3, h5⟩
end
theorem flatM_len {α : Type} (f : α → List Value) (s : Nat) (hf : ∀ x, (f x).length = s) : ∀ l : List α, (l.flatMap f).length = l.length * s
  | [] => by simp
  | x :: l => by rw [List.flatMap_cons, List.length_append, hf, flatM_len f s hf l, List.length_cons, Nat.add_mul]; omega
theorem flatM_get {α : Type} (f : α → List Value) (s : Nat) (hf : ∀ x, (f x).length = s) : ∀ (l : List α) (j o : Nat) (hj : j < l.length), o < s → (l.flatMap f)[j * s + o]? = (f l[j])[o]?
  | [], j, o, hj, _ => absurd hj (Nat.not_lt_zero _)
  | x :: l, 0, o, _, ho => by rw [List.flatMap_cons, Nat.zero_mul, Nat.zero_add, List.getElem?_append_left (by rw [hf]; exact ho), List.getElem_cons_zero]
  | x :: l, j + 1, o, hj, ho => by
    rw [List.flatMap_cons, List.getElem?_append_right (by rw [hf, Nat.add_mul]; omega), hf, List.getElem_cons_succ, show (j + 1) * s + o - s = j * s + o by rw [Nat.add_mul]; omega]
    exact flatM_get f s hf l j o (by simpa using hj) ho
theorem wpList_append_rowsM {P : Program} {w : World} {ops : Array Oper} {rest : List Oper} {o : Oper} {a : Act} {Q : Exit → Act → World → Prop} (hgd : o.guard = none) (s x : Operand) (t : TypeId)
    (ho : o.op = .call { callee := .builtin .append, args := #[s, x], argTypes := #[t, t] })
    (base : Nat) (e : TypeId) (i : TypeInfo) (z : Value) (size bytes : Nat) (ht : P.underlying t = some (.slice e)) (hi : P.info? e = some i) (hz : i.zero = some z)
    (hsize : i.size = size) (hby : i.bytes = bytes) (hzs : z.cells.size = size) (hpos : 0 < size)
    (v : Value) (n : Nat) (xs : List Value) (hs : a.eval s = v) (hown : w.ownsRow base e size v n xs)
    (y : Value) (m : Nat) (news : List Value) (hx : a.eval x = y) (hr : RowMs w size y m news) (h1 : ∀ u ∈ news, u.oneCell' = true)
    (h63 : n + m ≤ maxLen) (hbytes : (n + m) * bytes ≤ 140737488355328) (hbase : base ≤ w.heap.size)
    (h : ∀ v' w', w'.ownsRow base e size v' (n + m) (xs ++ news) → w.grownBy w' v.ownBlock → (v'.ownBlock = v.ownBlock ∨ v'.ownBlock = some w.heap.size) → wpList P ops Q rest (a.put o.dst v') w') : wpList P ops Q (o :: rest) a w :=
  wpList_plain hgd fun K hK => by
    obtain ⟨v', w', hrun, h2, h3, h4⟩ := run_append_rowsM (P := P) base t o.type e i z size bytes ht hi hz hsize hby hzs hpos v n xs hown y m news hr h1 h63 hbytes hbase
    unfold Oper.wp execOp
    simp only [ho, resolve, invoke, builtin, Sem.run_bind, Sem.run_pure, Result.andThen_ok, List.map_toArray, List.map_cons, List.map_nil, hs, hx, hrun]
    exact hK _ _ (h v' w' h2 h3 h4)

def RowM {α : Type} (w : World) (K : Nat) (R : World → Addr → α → Prop) (A : Option Addr) (c : Nat) (l : List α) : Prop :=
  l.length ≤ c ∧ c ≤ maxLen ∧ (A = none → c = 0) ∧ ∀ j (hj : j < l.length), ∃ ad, A = some ad ∧ ad.block < w.heap.size ∧ R w (ad.add (j * K)) l[j]
theorem RowM.below {α : Type} {w w' : World} {K : Nat} {R : World → Addr → α → Prop} {A : Option Addr} {c : Nat} {l : List α} (hR : ∀ (p : Addr) (x : α), p.block < w.heap.size → R w p x → R w' p x) (h : RowM w K R A c l) (hz : w.heap.size ≤ w'.heap.size) : RowM w' K R A c l := by
  obtain ⟨h1, h2, h3, h4⟩ := h
  refine ⟨h1, h2, h3, fun j hj => ?_⟩
  obtain ⟨ad, e1, e2, e3⟩ := h4 j hj
  exact ⟨ad, e1, Nat.lt_of_lt_of_le e2 hz, hR _ _ (by rw [block_add]; exact e2) e3⟩
theorem RowM.none {α : Type} (w : World) (K : Nat) (R : World → Addr → α → Prop) : RowM w K R none 0 [] := ⟨Nat.le_refl _, Nat.zero_le _, fun _ => rfl, fun j hj => absurd hj (Nat.not_lt_zero _)⟩
theorem rowM_own {α : Type} {w : World} {base : Nat} {t : TypeId} {K : Nat} {v : Value} {n : Nat} (cells : α → List Value) (hK : ∀ q, (cells q).length = K) (hpos : 0 < K) {R : World → Addr → α → Prop} {qs : List α} (h : w.ownsRow base t K v n (qs.flatMap cells))
    (hR : ∀ q ∈ qs, ∀ b i : Nat, (∀ o, o < K → w.cell? ⟨b, i + o, none⟩ = (cells q)[o]?) → R w ⟨b, i, none⟩ q) : ∃ A c, v = .slice A qs.length c ∧ RowM w K R A c qs := by
  have hl := h.1
  rw [flatM_len cells K hK] at hl
  have hn : n = qs.length := (Nat.eq_of_mul_eq_mul_right hpos hl).symm
  subst hn
  rcases h.2 with ⟨rfl, h0⟩ | ⟨g, cap, cur, rfl, hbase, hg, hc, hm, hcs, ht⟩
  · have : qs = [] := List.eq_nil_of_length_eq_zero h0
    subst this
    exact ⟨none, 0, rfl, RowM.none _ _ _⟩
  · refine ⟨some ⟨g, 0, none⟩, cap, rfl, hc, hm, fun h => (by cases h), fun j hj => ?_⟩
    refine ⟨⟨g, 0, none⟩, rfl, (Array.getElem?_eq_some_iff.1 hg).1, ?_⟩
    rw [Addr.add_lit, Nat.zero_add]
    refine hR _ (List.getElem_mem hj) g _ fun o ho => ?_
    have hlt : j * K + o < qs.length * K := by
      have : (j + 1) * K ≤ qs.length * K := Nat.mul_le_mul_right _ hj
      rw [Nat.add_mul] at this
      omega
    rw [cell_of_row w g _ _ _ (0, 0) hg, ← flatM_get cells K hK qs j o hj ho, ← ht, List.getElem?_take, if_pos hlt, Array.getElem?_toList]

def StpP (w : World) (p : Addr) (s : Bool × List UInt8) : Prop := w.cell? p = some (.bool s.1) ∧ w.cell? ⟨p.block, p.off + 1, none⟩ = some (.string (strB s.2))
abbrev PthK (w : World) : Option Addr → Nat → List (Bool × List UInt8) → Prop := RowM w 2 StpP
theorem cellM {w w' : World} {p : Addr} {x : Value} {B : Nat} (hb : Below B w w') (hl : p.block < B) (h : w.cell? p = some x) : w'.cell? p = some x := (hb.cell hl).trans h
theorem PthK.below {w w' : World} {A : Option Addr} {c : Nat} {l : List (Bool × List UInt8)} (h : PthK w A c l) (hb : Below w.heap.size w w') : PthK w' A c l := RowM.below (fun p x hl h => ⟨cellM hb hl h.1, cellM hb hl h.2⟩) h hb.size
def OthP (w : World) (p : Addr) (o : Bool × Nat × Nat) : Prop := w.cell? p = some (.bool o.1) ∧ w.cell? ⟨p.block, p.off + 1, none⟩ = some (.int .i64 o.2.1) ∧ w.cell? ⟨p.block, p.off + 2, none⟩ = some (.int .i64 o.2.2)
abbrev OthK (w : World) : Option Addr → Nat → List (Bool × Nat × Nat) → Prop := RowM w 3 OthP
theorem OthK.below {w w' : World} {A : Option Addr} {c : Nat} {l : List (Bool × Nat × Nat)} (h : OthK w A c l) (hb : Below w.heap.size w w') : OthK w' A c l := RowM.below (fun p x hl h => ⟨cellM hb hl h.1, cellM hb hl h.2.1, cellM hb hl h.2.2⟩) h hb.size

end Go.Proofs.YticfnjihjpgneaaGreat

namespace Go.Proofs.YticfnjihjpgneaaGreat
open Go.RowKit Go.ChangeShapes Go.WideShapes Go.ChangeAt
set_option linter.unusedVariables false
set_option linter.unusedSimpArgs false
set_option maxRecDepth 20000

section
variable {H : Type} {enc : TypeId × Value → H} {W : World} {sp : Nat → Bool} {hd : Bool} {base : Nat} {v : Value} {d : DataW H} {ps : List MemPlace}

def inM (n : Int) : Prop := -9223372036854775808 ≤ n ∧ n ≤ 9223372036854775807
theorem inM_of {n : Int} (h : (Lit.int .i64 n).wf = true) : inM n := by
  simp [Lit.wf, IntKind.min, IntKind.max, IntKind.signed, IntKind.bits] at h
  exact h
end
end Go.Proofs.YticfnjihjpgneaaGreat

namespace Go.Proofs.YticfnjihjpgneaaGreat
open Go.RowKit Go.ChangeShapes Go.WideShapes Go.ChangeAt
set_option linter.unusedVariables false
set_option linter.unusedSimpArgs false
set_option maxRecDepth 20000

section
variable {H : Type} {enc : TypeId × Value → H} {W : World} {sp : Nat → Bool} {hd : Bool} {base : Nat} {v : Value} {d : DataW H} {ps : List MemPlace}

theorem row_ofM {α : Type} (inst : Inhabited α) {m : Nat} {x : DataW H × List MemPlace} {c : Value} {T E : TypeId} {K : Nat} (R : World → Addr → α → Prop) (Q : α → Prop) (hu : Tryz.prog.underlying T = some (.slice E)) (hK : Tryz.prog.cellsOf E = K) (hR : ∀ p x, R W p x → p.block < W.heap.size)
    (hpart : ∀ n cs y p, DataW.trod enc Tryz.prog W 0 sp hd n E cs = some y → cs.length = K → (∀ i, i < K → W.cell? (p.add i) = cs[i]?) → ∃ z, R W p z ∧ Q z)
    (h : DataW.trod enc Tryz.prog W 0 sp hd m T [c] = some x) : ∃ (l : List α) (A : Option Addr) (cap : Nat), c = .slice A l.length cap ∧ RowM W K R A cap l ∧ ∀ z ∈ l, Q z := by
  rcases DataW.trod_slice hu h with ⟨hc, -⟩ | ⟨a, len', cap', elems, rest, n, -, hc, -, -, hl, hm, hel, hx, -, -⟩
  · injection hc with hc
    subst hc
    exact ⟨[], none, 0, rfl, RowM.none _ _ _, fun z hz => by cases hz⟩
  · injection hc with hc
    subst hc
    have each : ∀ i, i < len' → ∃ z, R W (a.add (i * K)) z ∧ Q z := fun i hi => by
      have h1 := hx i hi
      rw [hK, List.getElem?_eq_getElem (by omega)] at h1
      obtain ⟨cs, hcs, ht⟩ := Option.bind_eq_some_iff.1 h1
      obtain ⟨-, hlen, hat⟩ := World.cells?_some hcs
      exact hpart n cs _ _ ht hlen hat
    obtain ⟨f, hf⟩ := Deep.choose_lt each
    refine ⟨(List.range len').map f, some a, cap', by simp, ⟨by simpa using hl, hm, fun h => (by cases h), fun j hj => ?_⟩, fun z hz => ?_⟩
    · have hjl : j < len' := by simpa using hj
      have hk := (hf j hjl).1
      refine ⟨a, rfl, ?_, by simpa using hk⟩
      have := hR _ _ hk
      rwa [block_add] at this
    · obtain ⟨j, hj, rfl⟩ := List.mem_map.1 hz
      exact (hf j (List.mem_range.1 hj)).2
end
end Go.Proofs.YticfnjihjpgneaaGreat
