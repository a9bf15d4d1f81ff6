/- Pure: a program in writing, and read (layer 6). -/
import Derived.Test.YtgkfnplgldigbaaDoorAsP
import Derived.Test.YtgkfnplgldigbaaDoorPrE
namespace Go.Proofs.YtgkfnplgldigbaaDoor.asm
open Go.ChangeShapes Go.WideShapes Go.ChangeAt Go.RowKit
open Go.Proofs.YtgkfnplgldigbaaDoor.wd
open Go.Proofs.YtgkfnplgldigbaaDoor.ins (three three_cell)
set_option linter.unusedVariables false
set_option linter.unusedSimpArgs false
abbrev PG := Int × List (List I4)
def wMem : List UInt8 := [109, 101, 109, 111, 114, 121]
def wFun : List UInt8 := [102, 117, 110, 99, 116, 105, 111, 110]
abbrev RdS := Bool × Int × List (List I4)
def memP : List (List UInt8) → Option Int
  | [a, b] => if a = wMem ∧ (numV b).2 = true then some (numV b).1 else none
  | _ => none
def addI (fs : List (List I4)) (x : I4) : List (List I4) := fs.dropLast ++ [fs.getLastD [] ++ [x]]
/-- what a line with words makes of what was read. -/
def rd1 (s : RdS) (l : List UInt8) : RdS × Int :=
  if s.1 = false then (match memP (fldV l) with
    | some m => ((true, m, s.2.2), 0)
    | none => ((true, s.2), 4))
  else if fldV l = [wFun] then ((true, s.2.1, s.2.2 ++ [[]]), 0)
  else if (parV l).2 ≠ 0 then (s, (parV l).2)
  else if s.2.2 = [] then (s, 8)
  else ((true, s.2.1, addI s.2.2 (parV l).1), 0)
def rdL : RdS → List (List UInt8) → RdS × Int
  | s, [] => (s, 0)
  | s, l :: r => if fldV l = [] then rdL s r else if (rd1 s l).2 ≠ 0 then rd1 s l else rdL (rd1 s l).1 r
def rdT (t : List UInt8) : RdS × Int := rdL (false, 0, []) (linV t)
def readV (t : List UInt8) : PG × Int :=
  if 60000 < t.length then ((0, []), 9)
  else if (rdT t).2 ≠ 0 then ((0, []), (rdT t).2)
  else if (rdT t).1.1 = false then ((0, []), 4)
  else if pr.prE (rdT t).1.2.1 (rdT t).1.2.2 ≠ 0 then ((0, []), pr.prE (rdT t).1.2.1 (rdT t).1.2.2)
  else ((rdT t).1.2, 0)
def memL (m : Int) : List UInt8 := Lib.join [wMem, Lib.itoa m] [32]
def fnW (c : List I4) : List (List UInt8) := wFun :: c.map lineV
/-- the lines of a program in writing. -/
def wrt (p : PG) : List (List UInt8) := memL p.1 :: (p.2.map fnW).flatten
def textV (p : PG) : List UInt8 := if pr.prE p.1 p.2 = 0 then txt (wrt p) else []
theorem okL_I {c : UInt8} {n : Int} (h : ins.okL c n = true) : -32768 ≤ n ∧ n ≤ 32767 := by
  unfold ins.okL at h
  split at h
  · have := of_decide_eq_true h; omega
  · split at h
    · have := of_decide_eq_true h; omega
    · split at h
      · have := of_decide_eq_true h; omega
      · exact of_decide_eq_true h
theorem chk_I {f : List UInt8} : ∀ {fs : List Int}, ins.chkL f fs = 0 → f.length ≤ fs.length → ∀ n ∈ fs, -32768 ≤ n ∧ n ≤ 32767 := by
  induction f with
  | nil =>
    intro fs h _ n hn
    unfold ins.chkL at h
    by_cases ha : fs.all (· == 0) = true
    · have := List.all_eq_true.1 ha n hn
      have : n = 0 := by simpa using this
      omega
    · rw [if_neg ha] at h
      exact absurd h (by decide)
  | cons c f ih =>
    intro fs h hl n hn
    cases fs with
    | nil => simp at hn
    | cons a fs =>
      unfold ins.chkL at h
      by_cases ho : ins.okL c a = true
      · rw [if_pos ho] at h
        rcases List.mem_cons.1 hn with rfl | hn
        · exact okL_I ho
        · exact ih h (by simp at hl; omega) n hn
      · rw [if_neg ho] at h
        exact absurd h (by decide)
theorem chk_64 {x : I4} (h : chk x = 0) : I64 x.2.1 ∧ I64 x.2.2.1 ∧ I64 x.2.2.2 := by
  obtain ⟨op, A, B, C⟩ := x
  have hfl := (ins.frmI_ok op).1
  have hc := h
  unfold chk ins.chkI at hc
  dsimp only at hc
  by_cases hr : op < 0 ∨ 25 < op
  · rw [if_pos hr] at hc; exact absurd hc (by decide)
  · rw [if_neg hr] at hc
    have h1 := chk_I hc (by simpa using hfl)
    have hA := h1 A (by simp)
    have hB := h1 B (by simp)
    have hC := h1 C (by simp)
    unfold I64
    dsimp only
    omega
theorem mem_wMem : wMem ≠ [] ∧ ∀ c ∈ wMem, c ≠ 32 := by decide
theorem fld_fun : fldV wFun = [wFun] := fld_join [wFun] (fun x hx => by
  rw [List.mem_singleton] at hx
  subst hx
  decide)
theorem fld_mem (m : Int) : fldV (memL m) = [wMem, Lib.itoa m] := fld_join [wMem, Lib.itoa m] (fun x hx => by
  simp only [List.mem_cons, List.not_mem_nil, or_false] at hx
  rcases hx with rfl | rfl
  · exact mem_wMem
  · exact ⟨(itoa_plain m).1, (itoa_plain m).2.1⟩)
theorem nm_fun : ∀ k, k < 26 → ins.nmL.getD k [] ≠ wFun := by decide
def wdt (c : UInt8) : Nat := if c = 114 then 1 else if c = 102 then 2 else if c = 116 then 3 else 6
def wds : List UInt8 → Nat
  | [] => 0
  | c :: f => 1 + wdt c + wds f
theorem itoa_le {v : Int} (k : Nat) (h : 0 ≤ v) (hk : v.toNat < 10 ^ (k + 1)) : (Lib.itoa v).length ≤ k + 1 := by
  rw [itoa_pos h]
  exact dec_len k _ hk
theorem okL_len {c : UInt8} {n : Int} (h : ins.okL c n = true) : (Lib.itoa n).length ≤ wdt c := by
  unfold ins.okL at h
  unfold wdt
  split at h
  · have := of_decide_eq_true h
    rename_i hc
    rw [if_pos hc]
    exact itoa_le 0 (by omega) (by omega)
  · rename_i hc
    rw [if_neg hc]
    split at h
    · have := of_decide_eq_true h
      rename_i hc
      rw [if_pos hc]
      exact itoa_le 1 (by omega) (by omega)
    · rename_i hc
      rw [if_neg hc]
      split at h
      · have := of_decide_eq_true h
        rename_i hc
        rw [if_pos hc]
        exact itoa_le 2 (by omega) (by omega)
      · rename_i hc
        rw [if_neg hc]
        have := of_decide_eq_true h
        by_cases h0 : 0 ≤ n
        · have := itoa_le (v := n) 5 h0 (by omega)
          omega
        · rw [itoa_negv (by omega), List.length_cons]
          have := dec_len 4 n.natAbs (by omega)
          omega
theorem tail_wds {f : List UInt8} : ∀ {fs : List Int}, ins.chkL f fs = 0 → f.length ≤ fs.length → (Lib.joinTail [32] ((fs.take f.length).map Lib.itoa)).length ≤ wds f := by
  induction f with
  | nil => intro fs _ _; simp [Lib.joinTail, wds]
  | cons c f ih =>
    intro fs h hl
    cases fs with
    | nil => simp at hl
    | cons a fs =>
      unfold ins.chkL at h
      by_cases ho : ins.okL c a = true
      · rw [if_pos ho] at h
        have h1 := ih h (by simp at hl; omega)
        have h2 := okL_len ho
        have e : Lib.joinTail [32] (((a :: fs).take (c :: f).length).map Lib.itoa) = 32 :: (Lib.itoa a ++ Lib.joinTail [32] ((fs.take f.length).map Lib.itoa)) := by simp [Lib.joinTail]
        rw [e, List.length_cons, List.length_append]
        unfold wds
        omega
      · rw [if_neg ho] at h
        exact absurd h (by decide)
theorem frm_wds : ∀ k, k < 26 → (ins.nmL.getD k []).length + wds (ins.frm k) ≤ 12 := by decide
theorem line_len {x : I4} (h : chk x = 0) : (lineV x).length ≤ 12 := by
  obtain ⟨op, A, B, C⟩ := x
  obtain ⟨h0, h1⟩ := chk_op h
  have hfl := (ins.frmI_ok op).1
  obtain ⟨k, rfl⟩ : ∃ k : Nat, op = k := ⟨op.toNat, by simp at h0; omega⟩
  have hk : k < 26 := by simp at h1; omega
  have hfi : ins.frmI (k : Int) = ins.frm k := by unfold ins.frmI; rw [if_pos (by omega)]; rfl
  have hc := h
  unfold chk ins.chkI at hc
  rw [if_neg (by simp; omega)] at hc
  dsimp only at hc
  have h2 := tail_wds hc (by simpa using hfl)
  have h3 := frm_wds k hk
  unfold lineV
  rw [if_pos h]
  unfold prt nml three
  dsimp only
  rw [Lib.join_cons, List.length_append, Int.toNat_natCast]
  rw [hfi] at h2 ⊢
  omega
theorem par_line {x : I4} (h : chk x = 0) : parV (lineV x) = (x, 0) ∧ fldV (lineV x) ≠ [] ∧ fldV (lineV x) ≠ [wFun] := by
  obtain ⟨hA, hB, hC⟩ := chk_64 h
  obtain ⟨h0, h1⟩ := chk_op h
  have hl := line_len h
  refine ⟨?_, ?_, ?_⟩
  · unfold parV
    rw [if_neg (by omega), fld_line x h, par_prt x h hA hB hC]
  · rw [fld_line x h]
    simp [prt]
  · rw [fld_line x h]
    unfold prt
    intro e
    have := (List.cons.inj e).1
    exact nm_fun x.1.toNat (by omega) this
theorem addI_snoc (acc : List (List I4)) (c : List I4) (x : I4) : addI (acc ++ [c]) x = acc ++ [c ++ [x]] := by
  unfold addI
  rw [List.dropLast_concat]
  simp
theorem rd_code (m : Int) (acc : List (List I4)) (rest : List (List UInt8)) : ∀ (l c : List I4), (∀ x ∈ l, chk x = 0) → rdL (true, m, acc ++ [c]) (l.map lineV ++ rest) = rdL (true, m, acc ++ [c ++ l]) rest := by
  intro l
  induction l with
  | nil => intro c _; simp
  | cons x l ih =>
    intro c h
    obtain ⟨h1, h2, h3⟩ := par_line (h x (by simp))
    rw [List.map_cons, List.cons_append, rdL, if_neg h2]
    have hr : rd1 (true, m, acc ++ [c]) (lineV x) = ((true, m, acc ++ [c ++ [x]]), 0) := by
      unfold rd1
      rw [if_neg (by simp), if_neg h3, h1, if_neg (by simp), if_neg (by simp), addI_snoc]
    rw [hr, if_neg (by simp), ih _ (fun y hy => h y (List.mem_cons_of_mem _ hy))]
    simp
theorem rd_funcs (m : Int) : ∀ (L acc : List (List I4)) (rest : List (List UInt8)), (∀ c ∈ L, ∀ x ∈ c, chk x = 0) → rdL (true, m, acc) ((L.map fnW).flatten ++ rest) = rdL (true, m, acc ++ L) rest := by
  intro L
  induction L with
  | nil => intro acc rest _; simp
  | cons c L ih =>
    intro acc rest h
    rw [List.map_cons, List.flatten_cons, List.append_assoc]
    unfold fnW
    rw [List.cons_append, rdL, fld_fun, if_neg (by simp)]
    have hr : rd1 (true, m, acc) wFun = ((true, m, acc ++ [[]]), 0) := by
      unfold rd1
      rw [if_neg (by simp), if_pos fld_fun]
    rw [hr, if_neg (by simp), rd_code m acc _ c [] (h c (by simp)), List.nil_append]
    have := ih (acc ++ [c]) rest (fun d hd => h d (List.mem_cons_of_mem _ hd))
    unfold fnW at this
    rw [this]
    simp
theorem pr_chk {m : Int} {L : List (List I4)} (h : pr.prE m L = 0) : ∀ c ∈ L, ∀ x ∈ c, chk x = 0 := by
  intro c hc x hx
  obtain ⟨_, h2⟩ := pr.prE_0 h
  obtain ⟨i, hi, rfl⟩ := List.getElem_of_mem hc
  have h3 := pr.fnR_0 h2 i hi
  rw [List.getD_eq_getElem?_getD, List.getElem?_eq_getElem hi, Option.getD_some] at h3
  obtain ⟨_, h4, _⟩ := pr.fnE_0 h3
  obtain ⟨j, hj, rfl⟩ := List.getElem_of_mem hx
  have h5 := (pr.insR_0 h4 j hj).1
  rw [List.getD_eq_getElem?_getD, List.getElem?_eq_getElem hj, Option.getD_some] at h5
  exact h5
theorem pr_mem {m : Int} {L : List (List I4)} (h : pr.prE m L = 0) : 0 ≤ m ∧ m ≤ 256 := by
  have := pr.cntE_0 (pr.prE_0 h).1
  omega
theorem rd_mem (m : Int) (hm : I64 m) : rd1 (false, 0, []) (memL m) = ((true, m, []), 0) ∧ fldV (memL m) ≠ [] := by
  constructor
  · unfold rd1
    rw [if_pos rfl, fld_mem, show memP [wMem, Lib.itoa m] = some m by simp only [memP]; rw [numV_itoa hm]; simp]
  · rw [fld_mem]
    simp
theorem rd_wrt {p : PG} (h : pr.prE p.1 p.2 = 0) : rdL (false, 0, []) (wrt p) = ((true, p.1, p.2), 0) := by
  have hm := pr_mem h
  obtain ⟨h1, h2⟩ := rd_mem p.1 (by unfold I64; omega)
  unfold wrt
  rw [rdL, if_neg h2, h1, if_neg (by simp)]
  have := rd_funcs p.1 p.2 [] [] (pr_chk h)
  rw [List.append_nil, List.nil_append] at this
  rw [this]
  rfl
theorem mem_tail {b : UInt8} : ∀ {L : List (List UInt8)}, b ∈ Lib.joinTail [32] L → (∃ z ∈ L, b ∈ z) ∨ b = 32 := by
  intro L
  induction L with
  | nil => intro h; simp [Lib.joinTail] at h
  | cons x r ih =>
    intro h
    have e : Lib.joinTail [32] (x :: r) = 32 :: (x ++ Lib.joinTail [32] r) := by simp [Lib.joinTail]
    rw [e] at h
    rcases List.mem_cons.1 h with h | h
    · exact .inr h
    · rcases List.mem_append.1 h with h | h
      · exact .inl ⟨x, by simp, h⟩
      · rcases ih h with ⟨z, hz, hb⟩ | hb
        · exact .inl ⟨z, List.mem_cons_of_mem _ hz, hb⟩
        · exact .inr hb
theorem mem_join {b : UInt8} {L : List (List UInt8)} (h : b ∈ Lib.join L [32]) : (∃ z ∈ L, b ∈ z) ∨ b = 32 := by
  cases L with
  | nil => simp [Lib.join_nil] at h
  | cons x r =>
    rw [Lib.join_cons] at h
    rcases List.mem_append.1 h with h | h
    · exact .inl ⟨x, by simp, h⟩
    · rcases mem_tail h with ⟨z, hz, hb⟩ | hb
      · exact .inl ⟨z, List.mem_cons_of_mem _ hz, hb⟩
      · exact .inr hb
theorem wrt_plain {p : PG} (h : pr.prE p.1 p.2 = 0) : ∀ x ∈ wrt p, ∀ c ∈ x, c ≠ 10 := by
  intro x hx
  rcases List.mem_cons.1 hx with rfl | hx
  · unfold memL
    rw [join_two, Lib.join_one]
    intro c hc
    rcases List.mem_append.1 hc with hc | hc
    · exact (show ∀ c ∈ wMem, c ≠ 10 by decide) c hc
    · rcases List.mem_append.1 hc with hc | hc
      · rw [List.mem_singleton] at hc; subst hc; decide
      · exact (itoa_plain p.1).2.2 c hc
  · obtain ⟨l, hl, hx⟩ := List.mem_flatten.1 hx
    obtain ⟨c, hc, rfl⟩ := List.mem_map.1 hl
    rcases List.mem_cons.1 hx with rfl | hx
    · decide
    · obtain ⟨y, hy, rfl⟩ := List.mem_map.1 hx
      have hy0 := pr_chk h c hc y hy
      unfold lineV
      rw [if_pos hy0]
      intro b hb
      rcases mem_join hb with ⟨z, hz, hb⟩ | hb
      · exact (prt_plain y hy0 z hz).2 b hb
      · subst hb; decide
theorem lin_wrt {p : PG} (h : pr.prE p.1 p.2 = 0) : linV (textV p) = wrt p := by
  unfold textV
  rw [if_pos h]
  exact lin_txt _ (wrt_plain h)
theorem txt_len (m : Nat) (L : List (List UInt8)) (h : ∀ x ∈ L, x.length ≤ m) : (txt L).length ≤ (m + 1) * L.length := by
  induction L with
  | nil => simp [txt]
  | cons x L ih =>
    have h1 := h x (by simp)
    have h2 := ih (fun y hy => h y (List.mem_cons_of_mem _ hy))
    unfold txt at h2 ⊢
    rw [List.map_cons, List.flatten_cons, List.length_append, List.length_append, List.length_singleton, List.length_cons, Nat.mul_add]
    omega
theorem cnt_wrt {p : PG} (h : pr.prE p.1 p.2 = 0) : (wrt p).length ≤ 3217 := by
  have h1 := pr.cntE_0 (pr.prE_0 h).1
  have h2 : ∀ L : List (List I4), (∀ c ∈ L, c.length ≤ 200) → ((L.map fnW).flatten).length ≤ 201 * L.length := by
    intro L
    induction L with
    | nil => intro _; simp
    | cons c L ih =>
      intro hc
      have h3 := hc c (by simp)
      have h4 := ih (fun d hd => hc d (List.mem_cons_of_mem _ hd))
      rw [List.map_cons, List.flatten_cons, List.length_append, List.length_cons]
      unfold fnW at h4 ⊢
      rw [List.length_cons, List.length_map]
      omega
  have h3 := h2 p.2 (fun c hc => by
    obtain ⟨i, hi, rfl⟩ := List.getElem_of_mem hc
    have h4 := pr.fnR_0 (pr.prE_0 h).2 i hi
    rw [List.getD_eq_getElem?_getD, List.getElem?_eq_getElem hi, Option.getD_some] at h4
    exact (pr.lenE_0 (pr.fnE_0 h4).1).2)
  unfold wrt
  rw [List.length_cons]
  omega
theorem wrt_short {p : PG} (h : pr.prE p.1 p.2 = 0) : ∀ x ∈ wrt p, x.length ≤ 12 := by
  intro x hx
  rcases List.mem_cons.1 hx with rfl | hx
  · have hm := pr_mem h
    unfold memL
    rw [join_two, Lib.join_one, List.length_append, List.length_append, List.length_singleton]
    have h1 := itoa_le (v := p.1) 2 (by omega) (by omega)
    have h2 : wMem.length = 6 := rfl
    omega
  · obtain ⟨l, hl, hx⟩ := List.mem_flatten.1 hx
    obtain ⟨c, hc, rfl⟩ := List.mem_map.1 hl
    rcases List.mem_cons.1 hx with rfl | hx
    · decide
    · obtain ⟨y, hy, rfl⟩ := List.mem_map.1 hx
      exact line_len (pr_chk h c hc y hy)
theorem textV_len (p : PG) : (textV p).length ≤ 41821 := by
  unfold textV
  split
  · rename_i h
    have h1 := txt_len 12 _ (wrt_short h)
    have h2 := cnt_wrt h
    omega
  · simp
/-- what is written is read as it was. -/
theorem read_text {p : PG} (h : pr.prE p.1 p.2 = 0) : readV (textV p) = (p, 0) := by
  have h1 := textV_len p
  unfold readV rdT
  rw [if_neg (by omega), lin_wrt h, rd_wrt h, if_neg (by simp), if_neg (by simp), if_neg (by rw [h]; decide)]
end Go.Proofs.YtgkfnplgldigbaaDoor.asm
