/- What the listed names give the walks (layer 3). -/
import Derived.Test.YtgkfnplgldigbaaDoorInN
import Derived.ProofKit
import Derived.LaidMore
import Derived.OpenShut
import Derived.Stop.Joined
import Derived.Test.YtgkfnplgldigbaaDoorWdA
import Derived.Lay
import Derived.Handed
import Derived.HandedShaped
import Derived.Lib.LaidTab
import Derived.Stop.LaidErr
import Derived.MakeChecks
import Derived.LaidSub
namespace Go.Proofs.YtgkfnplgldigbaaDoor.ins
open Go.ChangeShapes Go.WideShapes Go.ChangeAt Go.RowKit
set_option linter.unusedVariables false
set_option linter.unusedSimpArgs false
def laid1 : List (String × DataW Unit) := [("forebay/ins.names", Rows.laid_forebay_ins_names)]
theorem gNames : Tryd.prog.globalNamed "forebay/ins.names" = some 0 := by kernel_rfl
theorem tNames : (Tryd.prog.globals[0]?).map (·.type) = some 72 := by kernel_rfl
theorem door_met (os : Os) (args : Array Value) : laidMetH Tryd.prog laid1 ((World.doorLaid Tryd.prog 400 os).forCall (fun _ _ => 0) ⟨#[], args, []⟩).memory :=
  laidMetH_of_parts3 (fuel := 8) (laidMet_of_run' 8 (by kernel_rfl) (by kernel_rfl)) (by kernel_rfl) (by kernel_rfl)
def nmD {H : Type} : List (DataW H) := nmL.map fun l => .lit (.string l)
theorem nm_of_laid {W : World} (h : laidMetH Tryd.prog laid1 W) : NM W := by
  rw [MakeChecks.laidMetH_plain _ _ _ (by kernel_rfl)] at h
  obtain ⟨ps, ⟨g0, t0, cs0, f0, p0, q0, hg0, ht0, hv0, hd0, _, _⟩, _, _⟩ := h
  obtain rfl := Option.some.inj (gNames.symm.trans hg0)
  obtain rfl := Option.some.inj (tNames.symm.trans ht0)
  obtain ⟨xs, m1, rfl, hx1, hlen, hn3, hel⟩ := DataW.trod_array Tryd.underlying72 hd0
  have c1 : Tryd.prog.cellsOf 9 = 1 := by kernel_rfl
  have c26 : Tryd.prog.cellsOf 72 = 26 := by kernel_rfl
  rw [c1] at hel
  rw [c26] at hlen
  simp only [Prod.mk.injEq] at hx1
  have hx2 : xs.map (·.1) = nmD := by
    have h2 := hx1.1
    unfold Rows.laid_forebay_ins_names at h2
    rw [DataW.agg.injEq] at h2
    rw [← h2]
    rfl
  intro k hk
  have h1 := hel k hk
  have hxk : k < xs.length := by omega
  rw [List.getElem?_eq_getElem hxk] at h1
  obtain ⟨s, e1, e2, _⟩ := DataW.trod_string Tryd.underlying9 h1
  have hkc : k < cs0.toList.length := by omega
  have h3 : (cs0.toList.drop (k * 1)).take 1 = [cs0.toList[k]] := by
    rw [Nat.mul_one, List.drop_eq_getElem_cons hkc]; rfl
  rw [h3] at e1
  have e3 : cs0.toList[k] = .string s := by simpa using e1
  have e4 : s.data.toList = nmL.getD k [] := by
    have h5 := congrArg (fun l => l[k]?) hx2
    simp only [List.getElem?_map, List.getElem?_eq_getElem hxk, Option.map_some] at h5
    rw [e2] at h5
    unfold nmD at h5
    rw [List.getElem?_map] at h5
    have hkn : k < nmL.length := hk
    rw [List.getElem?_eq_getElem hkn] at h5
    simp at h5
    rw [h5, List.getD_eq_getElem?_getD, List.getElem?_eq_getElem hkn]
    rfl
  have hcell := World.var?_cell hg0 hv0 k
  have e5 : nm k = s := by
    unfold nm
    rw [← e4]
  rw [e5, hcell]
  have h6 : cs0[k]? = some (.string s) := by
    rw [← Array.getElem?_toList, List.getElem?_eq_getElem hkc, e3]
  simpa using h6
end Go.Proofs.YtgkfnplgldigbaaDoor.ins
namespace Go.Proofs.YtgkfnplgldigbaaDoor.wd
open Go.ChangeShapes Go.WideShapes Go.ChangeAt Go.RowKit
set_option linter.unusedVariables false
set_option linter.unusedSimpArgs false
def laid1 : List (String × DataW Unit) := [("math/bits.deBruijn32tab", Rows.laid_math_bits_deBruijn32tab), ("math/bits.deBruijn64tab", Rows.laid_math_bits_deBruijn64tab), ("internal/strconv.uint64pow10", Rows.laid_internal_strconv_uint64pow10), ("unicode/utf8.acceptRanges", Rows.laid_unicode_utf8_acceptRanges), ("strconv.ErrRange", Rows.laid_strconv_ErrRange), ("strconv.ErrSyntax", Rows.laid_strconv_ErrSyntax), ("unicode/utf8.first", Rows.laid_unicode_utf8_first)]
theorem plain1 (W : World) : laidMetH Tryd.prog laid1 W = laidMet Tryd.prog laid1 W := MakeChecks.laidMetH_plain _ _ _ (by kernel_rfl)
theorem pow_eq : (Rows.laid_internal_strconv_uint64pow10 : DataW Unit) = Lib.tabData .u64 Lib.pow10Tab := by kernel_rfl
theorem start_met (os : Os) (args : Array Value) : laidMetH Tryd.prog laid1 ((World.laidAll Tryd.prog os laid1).forCall (fun _ _ => 0) ⟨#[], args, []⟩).memory := by
  rw [plain1]
  exact laidMet_laidAll _ (by kernel_rfl) (by kernel_rfl)
theorem mx_of {W : World} (h : W.ShapedOpen Tryd.prog) : ∃ m, W.cell? ⟨4, 0, none⟩ = some (.int .i64 m) := Tryd.laysM146.s1_3 W h
section
variable {H : Type} {enc : TypeId × Value → H}
theorem hand_both {a : Assume} {C : Checked} {os : Os} {f : FuncId} {fn : Func} {s : ChangeSpec} {conds : List PathCond} {apart fresh handsOn again : Bool} {X : World → Array Value → Prop}
    (hX : ∀ (w w' : World) (args : Array Value), w.heap = w'.heap → X w args → X w' args)
    (own : ownKnob C.prog.godebug = none) (started : os.Started) (noInit : C.prog.inits.idxOf? f = none) (hfn : C.prog.funcs[f]? = some fn)
    (witness : ∃ (w : World) (tape : Tape) (i : Input), w.os = os ∧ (w.forCall tape i).Shaped C.prog ∧ i.vars = [] ∧ Input.okWide C.prog (w.forCall tape i) .any w.heap.size f i ∧
      ((s.pre enc C.prog fn conds apart (w.forCall tape i).memory i.args ∧ X (w.forCall tape i).memory i.args) ∧ sizedMet enc C.prog fn (OpenSpec.ofChange s) apart (w.forCall tape i).memory i.args) ∧ a.holds C.prog (lone (Frame.enter C.prog f i.args .normal) [] (w.forCall tape i)))
    (contract : ∀ (W : World) (base : Nat) (args : Array Value) (ds gs : List (DataW H)) (before : List MemPlace),
      (∀ (j : Nat) t v, fn.params[j]? = some t → args[j]? = some v → Value.okWide C.prog W .any base t v) →
      DataW.Whole enc C.prog fn.params.toList s.vars apart W args.toList ds gs before →
      conds.all (PathCond.test C.prog ⟨fn.params.toList, ds, s.plain.varTypes C.prog, gs⟩) = true → X W args → W.ShapedOpen C.prog →
      Calls C.prog f args W fun e W' => ∃ v, e = .returned v ∧ s.post enc C.prog fn apart fresh handsOn again W args v W') :
    ReturnsInHanded a C os f .any (fun w args => (s.pre enc C.prog fn conds apart w args ∧ X w args) ∧ sizedMet enc C.prog fn (OpenSpec.ofChange s) apart w args) (s.post enc C.prog fn apart fresh handsOn again) := by
  refine returnsInHanded_of_calls own started noInit witness ?_
  intro w tape i _ hsh _ hok hpre _
  obtain ⟨_, _, _, fn', hfn', _, _, _, _, hval⟩ := hok
  have e : fn' = fn := Option.some.inj (hfn'.symm.trans hfn)
  subst e
  obtain ⟨⟨⟨ds, gs, before, hw, hc⟩, hx⟩, _⟩ := hpre
  have hw' := DataW.Whole.of_heap (w' := w.forCall tape i) (by rfl) hw
  refine (contract (w.forCall tape i) w.heap.size i.args ds gs before hval hw' hc (hX _ _ _ (by rfl) hx) hsh).mono fun e W' ⟨v, he, hp⟩ => ?_
  subst he
  exact ChangeSpec.post_blind hp
end
theorem gSyn : Tryd.prog.globalNamed "strconv.ErrSyntax" = some 1 := by kernel_rfl
theorem gRng : Tryd.prog.globalNamed "strconv.ErrRange" = some 2 := by kernel_rfl
theorem star : "*" ++ "errors.errorString" = "*errors.errorString" := by decide
theorem rowE (u : TypeId) (h : Tryd.prog.typeName? 3 u = some "*errors.errorString") : u = 117 :=
  typeName_ptr_named (nm := "errors.errorString") (by rw [star]; kernel_rfl) (by kernel_rfl) (by decide) u (by rw [star]; exact h)
theorem nm_of_laid {W : World} (h : laidMetH Tryd.prog laid1 W) (hsh : W.ShapedOpen Tryd.prog) : NM W := by
  rw [plain1] at h
  have h3 := h.tail.tail
  rw [pow_eq] at h3
  have ht := Lib.tabIs_of_head (g := 3) (by kernel_rfl) (by kernel_rfl) (Tryd.underlying121) (Tryd.underlying100) (by kernel_rfl) (by kernel_rfl) h3
  obtain ⟨ar, sr, hr, _⟩ := laid_sentinel h.tail.tail.tail.tail gRng (by kernel_rfl) Tryd.underlying64 rowE Tryd.underlying117 Tryd.underlying119 rfl rfl Tryd.underlying9 (by kernel_rfl) (by kernel_rfl)
  obtain ⟨ay, sy, hs, _⟩ := laid_sentinel h.tail.tail.tail.tail.tail gSyn (by kernel_rfl) Tryd.underlying64 rowE Tryd.underlying117 Tryd.underlying119 rfl rfl Tryd.underlying9 (by kernel_rfl) (by kernel_rfl)
  have hlt : 8 ≤ W.heap.size := by
    obtain ⟨ps, ⟨g, t, cs, fuel, p, q, hg, hty, hv, _⟩, _⟩ := h.tail.tail.tail
    obtain rfl := Option.some.inj (hg.symm.trans (show Tryd.prog.globalNamed "unicode/utf8.acceptRanges" = some 8 by kernel_rfl))
    unfold World.var? at hv
    rw [hg] at hv
    simp only [Option.bind_some] at hv
    have : 8 < W.heap.size := by
      rcases Nat.lt_or_ge 8 W.heap.size with h | h
      · exact h
      · rw [Array.getElem?_eq_none h] at hv; cases hv
    omega
  exact ⟨ht, ⟨_, _, by have h0 := World.var?_cell gSyn hs 0; simpa using h0⟩, ⟨_, _, by have h0 := World.var?_cell gRng hr 0; simpa using h0⟩, mx_of hsh, hlt⟩
end Go.Proofs.YtgkfnplgldigbaaDoor.wd
namespace Go.Proofs.YtgkfnplgldigbaaDoor.asm
open Go.ChangeShapes Go.WideShapes Go.ChangeAt Go.RowKit
set_option linter.unusedVariables false
set_option linter.unusedSimpArgs false
def laid1 : List (String × DataW Unit) := [("forebay/ins.names", Rows.laid_forebay_ins_names), ("math/bits.deBruijn32tab", Rows.laid_math_bits_deBruijn32tab), ("math/bits.deBruijn64tab", Rows.laid_math_bits_deBruijn64tab), ("internal/strconv.uint64pow10", Rows.laid_internal_strconv_uint64pow10), ("unicode/utf8.acceptRanges", Rows.laid_unicode_utf8_acceptRanges), ("strconv.ErrRange", Rows.laid_strconv_ErrRange), ("strconv.ErrSyntax", Rows.laid_strconv_ErrSyntax), ("unicode/utf8.first", Rows.laid_unicode_utf8_first)]
theorem plain1 (W : World) : laidMetH Tryd.prog laid1 W = laidMet Tryd.prog laid1 W := MakeChecks.laidMetH_plain _ _ _ (by kernel_rfl)
theorem start_met (os : Os) (args : Array Value) : laidMetH Tryd.prog laid1 ((World.laidAll Tryd.prog os laid1).forCall (fun _ _ => 0) ⟨#[], args, []⟩).memory := by
  rw [plain1]
  exact laidMet_laidAll _ (by kernel_rfl) (by kernel_rfl)
theorem nm_of_laid {W : World} (h : laidMetH Tryd.prog laid1 W) (hsh : W.ShapedOpen Tryd.prog) : ins.NM W ∧ wd.NM W := by
  have h1 := h.filter (fun x => x.1 == "forebay/ins.names")
  have h2 := h.filter (fun x => x.1 != "forebay/ins.names")
  rw [show laid1.filter (fun x => x.1 == "forebay/ins.names") = ins.laid1 by rfl] at h1
  rw [show laid1.filter (fun x => x.1 != "forebay/ins.names") = wd.laid1 by rfl] at h2
  exact ⟨ins.nm_of_laid h1, wd.nm_of_laid h2 hsh⟩
end Go.Proofs.YtgkfnplgldigbaaDoor.asm
