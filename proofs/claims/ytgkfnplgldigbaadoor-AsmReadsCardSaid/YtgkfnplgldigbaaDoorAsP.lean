/- Pure: an instruction in writing, and read (layer 6). -/
import Derived.Test.YtgkfnplgldigbaaDoorInN
import Derived.Test.YtgkfnplgldigbaaDoorWdR
import Derived.Test.YtgkfnplgldigbaaDoorRecs
namespace Go.Proofs.YtgkfnplgldigbaaDoor.asm
open Go.ChangeShapes Go.WideShapes Go.ChangeAt Go.RowKit
open Go.Proofs.YtgkfnplgldigbaaDoor.wd
open Go.Proofs.YtgkfnplgldigbaaDoor.ins (three three_cell)
set_option linter.unusedVariables false
set_option linter.unusedSimpArgs false
abbrev I4 := Int × Int × Int × Int
def zero4 : I4 := (0, 0, 0, 0)
def chk (x : I4) : Int := ins.chkI x.1 x.2.1 x.2.2.1 x.2.2.2
def nml (op : Int) : List UInt8 := ins.nmL.getD op.toNat []
/-- an instruction in writing, as pieces. -/
def prt (x : I4) : List (List UInt8) := nml x.1 :: ((three x.2.1 x.2.2.1 x.2.2.2).take (ins.frmI x.1).length).map Lib.itoa
def lineV (x : I4) : List UInt8 := if chk x = 0 then Lib.join (prt x) [32] else []
def opOf (s : List UInt8) : Option Nat := (List.range 26).find? fun k => ins.nmL.getD k [] == s
/-- the numbers of pieces. -/
def numsP : List (List UInt8) → Option (List Int)
  | [] => some []
  | p :: r => if (numV p).2 = true then (numsP r).map ((numV p).1 :: ·) else none
def mk4 (op : Nat) (ns : List Int) : I4 := ((op : Int), ns.getD 0 0, ns.getD 1 0, ns.getD 2 0)
/-- what pieces say. -/
def parP : List (List UInt8) → I4 × Int
  | [] => (zero4, 7)
  | s :: os => match opOf s with
    | none => (zero4, 70)
    | some op =>
      if os.length < (ins.frm op).length then (zero4, 1)
      else if (ins.frm op).length < os.length then (zero4, 2)
      else match numsP os with
        | none => (zero4, 4)
        | some ns => if chk (mk4 op ns) = 0 then (mk4 op ns, 0) else (zero4, chk (mk4 op ns))
def parV (l : List UInt8) : I4 × Int := if 400 < l.length then (zero4, 9) else parP (fldV l)
theorem op_some {s : List UInt8} {k : Nat} (h : opOf s = some k) : k < 26 ∧ ins.nmL.getD k [] = s := by
  have h1 := List.find?_some h
  have h2 := List.mem_of_find?_eq_some h
  exact ⟨List.mem_range.1 h2, by simpa using h1⟩
theorem op_all {s : List UInt8} {k : Nat} (h : opOf s = some k) : ∀ j, j < 26 → (ins.nmL.getD j [] == s) = decide (true = true ∧ j = k) := by
  intro j hj
  obtain ⟨hk, hs⟩ := op_some h
  by_cases hjk : j = k
  · subst hjk
    rw [hs]
    simp
  · have : ¬ ins.nmL.getD j [] = s := fun e => hjk (ins.nm_inj j hj k hk (by rw [e, hs]))
    rw [beq_eq_false_iff_ne.2 this]
    simp [hjk]
theorem op_none {s : List UInt8} (h : opOf s = none) : ∀ j, j < 26 → (ins.nmL.getD j [] == s) = decide (false = true ∧ j = 0) := by
  intro j hj
  have := List.find?_eq_none.1 h j (List.mem_range.2 hj)
  simpa using this
theorem op_nm {k : Nat} (hk : k < 26) : opOf (ins.nmL.getD k []) = some k := by
  cases h : opOf (ins.nmL.getD k []) with
  | none =>
    have := op_none h k hk
    simp at this
  | some j =>
    obtain ⟨hj, hs⟩ := op_some h
    rw [ins.nm_inj j hj k hk hs]
theorem nm_plain : ∀ k, k < 26 → ins.nmL.getD k [] ≠ [] ∧ (ins.nmL.getD k []).length ≤ 20 ∧ (∀ c ∈ ins.nmL.getD k [], c ≠ 32) ∧ ∀ c ∈ ins.nmL.getD k [], c ≠ 10 := by decide
theorem itoa_plain (v : Int) : Lib.itoa v ≠ [] ∧ (∀ c ∈ Lib.itoa v, c ≠ 32) ∧ ∀ c ∈ Lib.itoa v, c ≠ 10 := by
  have hd : ∀ u, ∀ c ∈ Lib.decDigits u, c ≠ 32 ∧ c ≠ 10 := fun u c hc => by
    have := dec_digits u c hc
    unfold Dg at this
    have e1 : (32 : UInt8).toNat = 32 := rfl
    have e2 : (10 : UInt8).toNat = 10 := rfl
    constructor <;> (rintro rfl; omega)
  by_cases h : 0 ≤ v
  · rw [itoa_pos h]
    exact ⟨dec_ne _, fun c hc => (hd _ c hc).1, fun c hc => (hd _ c hc).2⟩
  · rw [itoa_negv (by omega)]
    refine ⟨by simp, fun c hc => ?_, fun c hc => ?_⟩
    · rcases List.mem_cons.1 hc with rfl | hc
      · decide
      · exact (hd _ c hc).1
    · rcases List.mem_cons.1 hc with rfl | hc
      · decide
      · exact (hd _ c hc).2
theorem nums_itoa : ∀ l : List Int, (∀ v ∈ l, I64 v) → numsP (l.map Lib.itoa) = some l := by
  intro l
  induction l with
  | nil => intro _; rfl
  | cons v l ih =>
    intro h
    have h1 := numV_itoa (h v (by simp))
    rw [List.map_cons, numsP, h1, if_pos rfl, ih (fun x hx => h x (List.mem_cons_of_mem _ hx))]
    rfl
theorem chk_op {x : I4} (h : chk x = 0) : 0 ≤ x.1 ∧ x.1 ≤ 25 := by
  unfold chk ins.chkI at h
  by_cases hc : x.1 < 0 ∨ 25 < x.1
  · rw [if_pos hc] at h; exact absurd h (by decide)
  · omega
/-- what is not named is zero. -/
theorem chk_rest {f : List UInt8} {A B C : Int} (h : ins.chkL f [A, B, C] = 0) (hl : f.length ≤ 3) : (([A, B, C] : List Int).take f.length).getD 0 0 = A ∧ (([A, B, C] : List Int).take f.length).getD 1 0 = B ∧ (([A, B, C] : List Int).take f.length).getD 2 0 = C := by
  match f, h, hl with
  | [], h, _ =>
    simp [ins.chkL] at h
    simp [h]
  | [a], h, _ =>
    simp [ins.chkL] at h
    split at h
    · split at h
      · rename_i hbc
        simp [hbc.1, hbc.2]
      · exact absurd h (by decide)
    · exact absurd h (by decide)
  | [a, b], h, _ =>
    simp [ins.chkL] at h
    split at h
    · split at h
      · split at h
        · rename_i hc
          simp [hc]
        · exact absurd h (by decide)
      · exact absurd h (by decide)
    · exact absurd h (by decide)
  | [a, b, c], h, _ => simp
  | _ :: _ :: _ :: _ :: _, _, hl => simp at hl
theorem prt_plain (x : I4) (h : chk x = 0) : ∀ y ∈ prt x, (y ≠ [] ∧ ∀ c ∈ y, c ≠ 32) ∧ ∀ c ∈ y, c ≠ 10 := by
  intro y hy
  obtain ⟨h0, h1⟩ := chk_op h
  rcases List.mem_cons.1 hy with rfl | hy
  · obtain ⟨a, _, b, c⟩ := nm_plain x.1.toNat (by omega)
    exact ⟨⟨a, b⟩, c⟩
  · obtain ⟨v, _, rfl⟩ := List.mem_map.1 hy
    obtain ⟨a, b, c⟩ := itoa_plain v
    exact ⟨⟨a, b⟩, c⟩
theorem fld_line (x : I4) (h : chk x = 0) : fldV (lineV x) = prt x := by
  unfold lineV
  rw [if_pos h]
  exact fld_join _ fun y hy => (prt_plain x h y hy).1
theorem par_prt (x : I4) (h : chk x = 0) (hA : I64 x.2.1) (hB : I64 x.2.2.1) (hC : I64 x.2.2.2) : parP (prt x) = (x, 0) := by
  obtain ⟨op, A, B, C⟩ := x
  obtain ⟨h0, h1⟩ := chk_op h
  obtain ⟨k, rfl⟩ : ∃ k : Nat, op = k := ⟨op.toNat, by simp at h0; omega⟩
  have hk : k < 26 := by simp at h1; omega
  have hfi : ins.frmI (k : Int) = ins.frm k := by unfold ins.frmI; rw [if_pos (by omega)]; rfl
  have hfl := (ins.frmI_ok (k : Int)).1
  have hc := h
  unfold chk ins.chkI at hc
  rw [if_neg (by simp; omega)] at hc
  dsimp only at hc
  rw [hfi] at hc hfl
  obtain ⟨e0, e1, e2⟩ := chk_rest hc hfl
  have hn : numsP (((three A B C).take (ins.frm k).length).map Lib.itoa) = some ((three A B C).take (ins.frm k).length) := nums_itoa _ fun v hv => by
    have := List.mem_of_mem_take hv
    simp only [three, List.mem_cons, List.not_mem_nil, or_false] at this
    rcases this with rfl | rfl | rfl
    · exact hA
    · exact hB
    · exact hC
  have hlen : (((three A B C).take (ins.frm k).length).map Lib.itoa).length = (ins.frm k).length := by
    rw [List.length_map, List.length_take]
    simp [ins.three]
    omega
  have hmk : mk4 k ((three A B C).take (ins.frm k).length) = ((k : Int), A, B, C) := by
    unfold mk4 three
    rw [e0, e1, e2]
  unfold prt
  dsimp only
  rw [hfi]
  have hnm : nml (k : Int) = ins.nmL.getD k [] := by unfold nml; rw [Int.toNat_natCast]
  rw [hnm, parP, op_nm hk]
  dsimp only
  rw [hlen, if_neg (Nat.lt_irrefl _), if_neg (Nat.lt_irrefl _), hn]
  dsimp only
  rw [hmk, if_pos h]
end Go.Proofs.YtgkfnplgldigbaaDoor.asm
