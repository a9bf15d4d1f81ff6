/- The instruction that bytes are (layer 3). -/
import Derived.Test.YtdneblbaofhehaaInD
namespace Go.Proofs.Ytdneblbaofhehaa.ins
open Go.ChangeShapes Go.WideShapes Go.ChangeAt Go.RowKit
open Go.Proofs.Ytdneblbaofhehaa.bin Go.Proofs.Ytdneblbaofhehaa.bits
set_option linter.unusedVariables false
set_option linter.unusedSimpArgs false
def valB (c : UInt8) (l : List UInt8) : Int := if c = 110 then sgV (ofB l) 2 else (ofB l : Int)
def readL : List UInt8 → List UInt8 → Int × List Int × List UInt8
  | [], r => (0, [], r)
  | c :: f, r => if okL c (valB c (r.take (wd c))) then ((readL f (r.drop (wd c))).1, valB c (r.take (wd c)) :: (readL f (r.drop (wd c))).2.1, (readL f (r.drop (wd c))).2.2) else (3, [], r)
def sumW : List UInt8 → Nat
  | [] => 0
  | c :: f => wd c + sumW f
theorem sumW_frm : ∀ n : Nat, sumW (frm n) ≤ 3 := by
  intro n
  unfold frm
  split <;> decide
theorem sumW_frmI (op : Int) : sumW (frmI op) ≤ 3 := by
  unfold frmI
  split
  · exact sumW_frm _
  · decide
/-- what is wrong with bytes -/
def getE (l : List UInt8) : Int :=
  if l.length < 4 then 1 else if 4 < l.length then 2
  else if 25 < (l.getD 0 0).toNat then 5
  else if (readL (frm (l.getD 0 0).toNat) (l.drop 1)).1 ≠ 0 then 3
  else if (readL (frm (l.getD 0 0).toNat) (l.drop 1)).2.2.all (· == 0) then 0 else 4
/-- what they are, where nothing is wrong -/
def getV (l : List UInt8) (i : Nat) : Int := if getE l = 0 then (if i = 0 then ((l.getD 0 0).toNat : Int) else (readL (frm (l.getD 0 0).toNat) (l.drop 1)).2.1.getD (i - 1) 0) else 0
theorem set_blk (w : World) (b i : Nat) (v : Value) {cs : Array Value} {e : TypeId} (h : w.heap[b]? = some (.cells cs e (0, 0))) : (w.setCell ⟨b, i, none⟩ v).heap[b]? = some (.cells (cs.set! i v) e (0, 0)) := by
  obtain ⟨hlt, hk⟩ := Array.getElem?_eq_some_iff.1 h
  show (w.heap.modify b _)[b]? = _
  rw [Array.getElem?_eq_getElem (by rw [Array.size_modify]; exact hlt), Array.getElem_modify_self, hk]
  rfl
theorem set_oth (w : World) (b i j : Nat) (v : Value) (h : j ≠ b) : (w.setCell ⟨b, i, none⟩ v).heap[j]? = w.heap[j]? := by
  show (w.heap.modify b _)[j]? = _
  rw [Array.getElem?_modify]
  simp [Ne.symm h]
theorem set_size (w : World) (b i : Nat) (v : Value) : (w.setCell ⟨b, i, none⟩ v).heap.size = w.heap.size := by
  show (w.heap.modify b _).size = _
  simp
def row3 (vs : List Int) : Array Value := #[.int .i64 (vs.getD 0 0), .int .i64 (vs.getD 1 0), .int .i64 (vs.getD 2 0)]
theorem row3_set (vs : List Int) (n : Int) (h : vs.length < 3) : (row3 vs).set! vs.length (.int .i64 n) = row3 (vs ++ [n]) := by
  match vs, h with
  | [], _ => rfl
  | [a], _ => rfl
  | [a, b], _ => rfl
set_option maxRecDepth 20000 in
set_option maxRecDepth 20000 in
theorem str_drop (r : List UInt8) (h : Nat) : (⟨r.toArray⟩ : ByteArray).extract h (⟨r.toArray⟩ : ByteArray).size = ⟨(r.drop h).toArray⟩ := by
  rw [str_size, ByteArray.ext_iff, ByteArray.data_extract]
  apply Array.ext'
  rw [Array.toList_extract, List.extract_eq_take_drop]
  show List.take (r.length - h) (List.drop h r) = r.drop h
  exact List.take_of_length_le (by rw [List.length_drop]; omega)
/-- What is there while an instruction is read: the result, the cut, the fields, the letters. -/
theorem row3_cell {w : World} {g : Nat} {vs : List Int} {e : Nat} (h : w.heap[g]? = some (.cells (row3 vs) e (0, 0))) (i : Nat) (hi : i < 3) : w.cell? ⟨g, i, none⟩ = some (.int .i64 (vs.getD i 0)) ∧ w.frozen? ⟨g, i, none⟩ = false := by
  constructor
  · match i, hi with
    | 0, _ => simp [World.cell?, h, row3]
    | 1, _ => simp [World.cell?, h, row3]
    | 2, _ => simp [World.cell?, h, row3]
  · simp [World.frozen?, h]
def GV (l : List UInt8) : Value := .tuple #[.agg #[.int .i64 (getV l 0), .int .i64 (getV l 1), .int .i64 (getV l 2), .int .i64 (getV l 3)], .int .i64 (getE l)]
def gz (e : Int) : Value := .tuple #[.agg #[.int .i64 0, .int .i64 0, .int .i64 0, .int .i64 0], .int .i64 e]
theorem gv_bad (l : List UInt8) (e : Int) (h : getE l = e) (he : e ≠ 0) : GV l = gz e := by
  have : ∀ i, getV l i = 0 := fun i => by unfold getV; rw [if_neg (by omega)]
  unfold GV gz
  rw [this, this, this, this, h]
theorem getE_cons (b : UInt8) (rest : List UInt8) (hr : rest.length = 3) : getE (b :: rest) = if 25 < b.toNat then 5 else if (readL (frm b.toNat) rest).1 ≠ 0 then 3 else if (readL (frm b.toNat) rest).2.2.all (· == 0) = true then 0 else 4 := by
  have h4 : (b :: rest).length = 4 := by simp [hr]
  unfold getE
  simp only [h4, List.getD_cons_zero, List.drop_succ_cons, List.drop_zero]
  rw [if_neg (by decide), if_neg (by decide)]
theorem ge_five (b : UInt8) (rest : List UInt8) (hr : rest.length = 3) (h : 25 < b.toNat) : getE (b :: rest) = 5 := by
  rw [getE_cons b rest hr, if_pos h]
theorem ge_three (b : UInt8) (rest : List UInt8) (hr : rest.length = 3) (h : ¬ 25 < b.toNat) (hT : (readL (frm b.toNat) rest).1 ≠ 0) : getE (b :: rest) = 3 := by
  rw [getE_cons b rest hr, if_neg h, if_pos hT]
theorem ge_four (b : UInt8) (rest : List UInt8) (hr : rest.length = 3) (h : ¬ 25 < b.toNat) (hT : (readL (frm b.toNat) rest).1 = 0) (hz : (readL (frm b.toNat) rest).2.2.all (· == 0) = false) : getE (b :: rest) = 4 := by
  rw [getE_cons b rest hr, if_neg h, if_neg (by rw [hT]; decide), if_neg (by rw [hz]; decide)]
theorem gv_good (b : UInt8) (rest : List UInt8) (vs : List Int) (hr : rest.length = 3) (h : ¬ 25 < b.toNat) (hT : (readL (frm b.toNat) rest).1 = 0) (hz : (readL (frm b.toNat) rest).2.2.all (· == 0) = true) (hv : (readL (frm b.toNat) rest).2.1 = vs) : GV (b :: rest) = .tuple #[.agg #[.int .i64 (b.toNat : Int), .int .i64 (vs.getD 0 0), .int .i64 (vs.getD 1 0), .int .i64 (vs.getD 2 0)], .int .i64 0] := by
  have hE : getE (b :: rest) = 0 := by rw [getE_cons b rest hr, if_neg h, if_neg (by rw [hT]; decide), if_pos hz]
  have hV : ∀ i, getV (b :: rest) i = if i = 0 then (b.toNat : Int) else vs.getD (i - 1) 0 := fun i => by
    unfold getV
    rw [if_pos hE]
    simp only [List.getD_cons_zero, List.drop_succ_cons, List.drop_zero]
    rw [hv]
  unfold GV
  rw [hV, hV, hV, hV, hE]
  rfl
theorem ofB_one (b : UInt8) : (ofB [b] : Int) = (b.toNat : Int) := by simp [ofB]
theorem frm_nat (n : Nat) : frmI (n : Int) = frm n := by unfold frmI; rw [if_pos (by omega)]; rfl
theorem valB_n (l : List UInt8) : valB 110 l = sgV (ofB l) 2 := by unfold valB; rw [if_pos rfl]
theorem valB_o (x : UInt8) (l : List UInt8) (h : x ≠ 110) : valB x l = (ofB l : Int) := by unfold valB; rw [if_neg h]
theorem frz {w : World} {g : Nat} {cs : Array Value} {e : TypeId} (h : w.heap[g]? = some (.cells cs e (0, 0))) (i : Nat) : w.frozen? ⟨g, i, none⟩ = false := by simp [World.frozen?, h]
theorem cel {w : World} {g : Nat} {cs : Array Value} {e : TypeId} (h : w.heap[g]? = some (.cells cs e (0, 0))) (i : Nat) : w.cell? ⟨g, i, none⟩ = cs[i]? := by simp [World.cell?, h]
theorem res_ins {fn : Func} {A : Array Value} {W : World} {g : Nat} {a b c d e : Value} {T : TypeId} (hfn : fn.results = #[.cell 2 33, .tmp 3]) (h2 : A.getD 2 undef = .pointer (some ⟨g, 0, none⟩)) (h3 : A.getD 3 undef = e) (hF : W.heap[g]? = some (.cells #[a, b, c, d] T (0, 0))) :
    (results fn A).run Try.prog W = .ok (.tuple #[.agg #[a, b, c, d], e]) W := by
  rw [Array.getD_eq_getD_getElem?] at h2 h3
  have c0 : W.cell? ⟨g, 0, none⟩ = some a := cel hF 0
  have c1 : W.cell? ⟨g, 1, none⟩ = some b := cel hF 1
  have c2 : W.cell? ⟨g, 2, none⟩ = some c := cel hF 2
  have c3 : W.cell? ⟨g, 3, none⟩ = some d := cel hF 3
  simp [results, hfn, h2, h3, go_sem, c0, c1, c2, c3]
def st4 (w : World) (g : Nat) (a b c d : Value) : World := (((w.setCell ⟨g, 0, none⟩ a).setCell ⟨g, 1, none⟩ b).setCell ⟨g, 2, none⟩ c).setCell ⟨g, 3, none⟩ d
theorem st4_blk {w : World} {g : Nat} {a b c d a' b' c' d' : Value} {e : TypeId} (h : w.heap[g]? = some (.cells #[a, b, c, d] e (0, 0))) : (st4 w g a' b' c' d').heap[g]? = some (.cells #[a', b', c', d'] e (0, 0)) := by
  have h0 := set_blk w g 0 a' h
  have h1 := set_blk _ g 1 b' h0
  have h2 := set_blk _ g 2 c' h1
  exact set_blk _ g 3 d' h2
theorem st4_below {w0 w : World} {B g : Nat} (h : Below B w0 w) (hg : B ≤ g) (a b c d : Value) : Below B w0 (st4 w g a b c d) :=
  (((h.setCell (p := ⟨g, 0, none⟩) hg _).setCell (p := ⟨g, 1, none⟩) hg _).setCell (p := ⟨g, 2, none⟩) hg _).setCell (p := ⟨g, 3, none⟩) hg _

end Go.Proofs.Ytdneblbaofhehaa.ins
