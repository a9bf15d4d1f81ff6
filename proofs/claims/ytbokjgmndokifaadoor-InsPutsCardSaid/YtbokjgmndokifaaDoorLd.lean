/- What the listed names give the walks (layer 3). -/
import Derived.Test.YtbokjgmndokifaaDoorInN
import Derived.ProofKit
import Derived.LaidMore
import Derived.OpenShut
import Derived.Stop.Joined
namespace Go.Proofs.YtbokjgmndokifaaDoor.ins
open Go.ChangeShapes Go.WideShapes Go.ChangeAt Go.RowKit
set_option linter.unusedVariables false
set_option linter.unusedSimpArgs false
def laid1 : List (String × DataW Unit) := [("forebay/ins.names", Rows.laid_forebay_ins_names)]
theorem gNames : Tryd.prog.globalNamed "forebay/ins.names" = some 0 := by kernel_rfl
theorem tNames : (Tryd.prog.globals[0]?).map (·.type) = some 40 := by kernel_rfl
theorem door_met (os : Os) (args : Array Value) : laidMetH Tryd.prog laid1 ((World.doorLaid Tryd.prog 400 os).forCall (fun _ _ => 0) ⟨#[], args, []⟩).memory :=
  laidMetH_of_parts3 (fuel := 8) (laidMet_of_run' 8 (by kernel_rfl) (by kernel_rfl)) (by kernel_rfl) (by kernel_rfl)
def nmD {H : Type} : List (DataW H) := nmL.map fun l => .lit (.string l)
theorem nm_of_laid {W : World} (h : laidMetH Tryd.prog laid1 W) : NM W := by
  rw [MakeChecks.laidMetH_plain _ _ _ (by kernel_rfl)] at h
  obtain ⟨ps, ⟨g0, t0, cs0, f0, p0, q0, hg0, ht0, hv0, hd0, _, _⟩, _, _⟩ := h
  obtain rfl := Option.some.inj (gNames.symm.trans hg0)
  obtain rfl := Option.some.inj (tNames.symm.trans ht0)
  obtain ⟨xs, m1, rfl, hx1, hlen, hn3, hel⟩ := DataW.trod_array Tryd.underlying40 hd0
  have c1 : Tryd.prog.cellsOf 9 = 1 := by kernel_rfl
  have c26 : Tryd.prog.cellsOf 40 = 26 := by kernel_rfl
  rw [c1] at hel
  rw [c26] at hlen
  simp only [Prod.mk.injEq] at hx1
  have hx2 : xs.map (·.1) = nmD := by
    have h2 := hx1.1
    unfold Rows.laid_forebay_ins_names at h2
    rw [DataW.agg.injEq] at h2
    rw [← h2]
    rfl
  intro k hk
  have h1 := hel k hk
  have hxk : k < xs.length := by omega
  rw [List.getElem?_eq_getElem hxk] at h1
  obtain ⟨s, e1, e2, _⟩ := DataW.trod_string Tryd.underlying9 h1
  have hkc : k < cs0.toList.length := by omega
  have h3 : (cs0.toList.drop (k * 1)).take 1 = [cs0.toList[k]] := by
    rw [Nat.mul_one, List.drop_eq_getElem_cons hkc]; rfl
  rw [h3] at e1
  have e3 : cs0.toList[k] = .string s := by simpa using e1
  have e4 : s.data.toList = nmL.getD k [] := by
    have h5 := congrArg (fun l => l[k]?) hx2
    simp only [List.getElem?_map, List.getElem?_eq_getElem hxk, Option.map_some] at h5
    rw [e2] at h5
    unfold nmD at h5
    rw [List.getElem?_map] at h5
    have hkn : k < nmL.length := hk
    rw [List.getElem?_eq_getElem hkn] at h5
    simp at h5
    rw [h5, List.getD_eq_getElem?_getD, List.getElem?_eq_getElem hkn]
    rfl
  have hcell := World.var?_cell hg0 hv0 k
  have e5 : nm k = s := by
    unfold nm
    rw [← e4]
  rw [e5, hcell]
  have h6 : cs0[k]? = some (.string s) := by
    rw [← Array.getElem?_toList, List.getElem?_eq_getElem hkc, e3]
  simpa using h6
end Go.Proofs.YtbokjgmndokifaaDoor.ins
