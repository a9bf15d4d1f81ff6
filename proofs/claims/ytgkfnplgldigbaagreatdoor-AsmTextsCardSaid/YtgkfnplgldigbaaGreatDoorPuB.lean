/- Is a program too much (layer 4). -/
import Derived.Test.YtgkfnplgldigbaaGreatDoorAsS
namespace Go.Proofs.YtgkfnplgldigbaaGreatDoor.pr
open Go.ChangeShapes Go.WideShapes Go.ChangeAt Go.RowKit
open Go.Proofs.YtgkfnplgldigbaaGreatDoor.bin Go.Proofs.YtgkfnplgldigbaaGreatDoor.bits Go.Proofs.YtgkfnplgldigbaaGreatDoor.ins
set_option linter.unusedVariables false
set_option linter.unusedSimpArgs false
def st2 (w : World) (g : Nat) (a b : Value) : World := (w.setCell ⟨g, 0, none⟩ a).setCell ⟨g, 1, none⟩ b
theorem st2_blk {w : World} {g : Nat} {a b a' b' : Value} {e : TypeId} (h : w.heap[g]? = some (.cells #[a, b] e (0, 0))) : (st2 w g a' b').heap[g]? = some (.cells #[a', b'] e (0, 0)) := by
  exact set_blk _ _ _ _ (set_blk _ _ _ _ h)
theorem st2_below {w0 w : World} {B g : Nat} (h : Below B w0 w) (hg : B ≤ g) (a b : Value) : Below B w0 (st2 w g a b) :=
  (h.setCell (p := ⟨g, 0, none⟩) hg _).setCell (p := ⟨g, 1, none⟩) hg _
theorem cel2 {w : World} {g : Nat} {a b : Value} {e : TypeId} (h : w.heap[g]? = some (.cells #[a, b] e (0, 0))) : w.cell? ⟨g, 0, none⟩ = some a ∧ w.cell? ⟨g, 1, none⟩ = some b ∧ w.frozen? ⟨g, 0, none⟩ = false ∧ w.frozen? ⟨g, 1, none⟩ = false := ⟨cel h 0, cel h 1, frz h 0, frz h 1⟩
theorem st2_oth (w : World) (g k : Nat) (a b : Value) (h : k ≠ g) : (st2 w g a b).heap[k]? = w.heap[k]? := (set_oth _ _ _ _ _ h).trans (set_oth _ _ _ _ _ h)
/-- no function among the first k is too long -/
def sm (L : List (List I4)) (k : Nat) : Prop := ∀ j, j < k → (L.getD j []).length ≤ 300
def Sm (L : List (List I4)) : Prop := L.length ≤ 40 ∧ sm L L.length
set_option maxRecDepth 20000 in
set_option maxHeartbeats 800000 in
theorem great_v (m : Int) (a : Option Addr) (n c : Nat) (L : List (List I4)) (w : World) (h : PM w (.slice a n c) L) :
    Calls Tryz.prog 5 #[.agg #[.int .i64 m, .slice a n c]] w fun e w' => (e = .returned (.bool true) ∨ (e = .returned (.bool false) ∧ Sm L)) ∧ Below w.heap.size w w' := by
  obtain ⟨hnl, hnc, hcm⟩ := h.len
  unfold maxLen at hcm
  have HR0 := Lib.hid h
  have HNL := Lib.hid hnl
  obtain ⟨W, hW⟩ : ∃ W, w.alloc (.cells #[.int .i64 m, .slice a n c] 24) = W := ⟨_, rfl⟩
  have hb0 : Below w.heap.size w W := by rw [← hW]; go_grown
  have HP := Lib.hid (show W.heap[w.heap.size]? = some (.cells #[.int .i64 m, .slice a n c] 24 (0, 0)) by rw [← hW]; exact heap_new _ _ _)
  have HW := Lib.hid hW
  have h0 : Hid (Below w.heap.size w W) := Lib.hid hb0
  have h00 : Hid (Below W.heap.size W W) := Lib.hid (Below.refl _ _)
  have hs1 : w.heap.size < W.heap.size := by rw [← hW]; simp
  have hz : Hid (sm L 0) := Lib.hid (fun j hj => absurd hj (by omega))
  have hp1 : W.cell? ⟨w.heap.size, 1, none⟩ = some (.slice a n c) := cel HP.out 1
  clear h hnl hW hb0
  by_cases h40 : 40 < n
  · have h40i : (40 : Int) < n := by omega
    go_enter Tryz.func5, Tryz.ntmps5
    go_wp2_with fail
    go_ret
    exact ⟨.inl rfl, by rw [HW.out]; exact h0.out⟩
  · have h40i : ¬ (40 : Int) < n := by omega
    go_enter Tryz.func5, Tryz.ntmps5
    go_wp2_with fail
    rw [HW.out]
    clear hp1
    go_loopw [3] (fun i wr => ∃ k : Nat, i = .int .i64 (k : Int) ∧ k ≤ n ∧ Hid (sm L k) ∧ wr = W) (fun i _ => n - (intOf i).toNat)
    case atStart => exact ⟨0, rfl, by omega, hz, rfl⟩
    case round =>
      clear hz
      obtain ⟨k, rfl, hk, HI, rfl⟩ := hrel
      have hp1 : wr.cell? ⟨w.heap.size, 1, none⟩ = some (.slice a n c) := cel HP.out 1
      by_cases hlt : k < n
      · obtain ⟨b, o, ai, ci, rfl, hbl, c0, hrow⟩ := (HR0.out.below h0.out).row k hlt
        obtain ⟨ln, hln⟩ : ∃ x, (L.getD k []).length = x := ⟨_, rfl⟩
        rw [hln] at c0
        have hplI : (k : Int) < (n : Int) := by omega
        clear hrow
        by_cases h300 : 300 < ln
        · have h300i : (300 : Int) < ln := by omega
          clear hln
          go_wp2_with fail
          go_ret
          exact ⟨.inl rfl, h0.out⟩
        · have h300i : ¬ (300 : Int) < ln := by omega
          have HI1 : Hid (sm L (k + 1)) := Lib.hid (fun j hj => by
            by_cases e : j = k
            · rw [e, hln]; omega
            · exact HI.out j (by omega))
          clear hln
          go_wp2_with fail
          go_roundw
          case rel => exact ⟨k + 1, by go_num, by omega, HI1, trivial⟩
          case measure => simp [intOf]; omega
      · obtain rfl : k = n := by omega
        go_wp2_with fail
        go_ret
        exact ⟨.inr ⟨rfl, by rw [← HNL.out]; omega, by rw [← HNL.out]; exact HI.out⟩, h0.out⟩
end Go.Proofs.YtgkfnplgldigbaaGreatDoor.pr
namespace Go.Proofs.YtgkfnplgldigbaaGreatDoor.pr
open Go.ChangeShapes Go.WideShapes Go.ChangeAt Go.RowKit
open Go.Proofs.YtgkfnplgldigbaaGreatDoor.bin Go.Proofs.YtgkfnplgldigbaaGreatDoor.bits Go.Proofs.YtgkfnplgldigbaaGreatDoor.ins
set_option linter.unusedVariables false
set_option linter.unusedSimpArgs false
section
variable {α : Type} {k : Nat} {en : α → List Value}
/-- 'append([]T{}, x...)' as a run. -/
theorem run_copyR {w : World} (t ty e : TypeId) (z : Value) (bytes : Nat) (ht : Tryz.prog.underlying t = some (.slice e)) (hinfo : (Tryz.prog.info? e).map (fun i => (i.zero, i.size, i.bytes)) = some (some z, k, bytes)) (hzs : z.cells.size = k) (hby : bytes ≤ 1000) (hr : Rec k en)
    (g B : Nat) (hown : w.heap[g]? = some (.cells #[] e (0, 0))) (hB : B ≤ g)
    (xs : List α) (x : Value) (hx : RV k en w x xs) (hsm : xs.length ≤ 1000000) :
    ∃ v' w', (Builtin.append_ #[t, t] ty #[.slice (some ⟨g, 0, none⟩) 0 0, x]).run Tryz.prog w = .ok v' w' ∧ OR k en w' B e v' xs ∧ Below B w w' := by
  obtain ⟨i0, hi, hz0, hz1, hz2⟩ := info_parts hinfo
  have hrow : w.ownsRow g e k (.slice (some ⟨g, 0, none⟩) 0 0) 0 [] := ⟨by simp, .inr ⟨g, 0, #[], rfl, Nat.le_refl _, hown, Nat.le_refl _, by simp, by simp, by simp⟩⟩
  have hgl : g < w.heap.size := (Array.getElem?_eq_some_iff.1 hown).1
  have hb1 : (0 + xs.length) * bytes ≤ 140737488355328 := by
    have := Nat.mul_le_mul (show 0 + xs.length ≤ 1000000 by omega) hby
    omega
  obtain ⟨ad, cap, hv, hle, hm, hnil, hc⟩ := hx
  subst hv
  have mono : ∀ {v : Value} {w' : World} {l : List Value} {n : Nat}, w'.ownsRow g e k v n l → w'.ownsRow B e k v n l := by
    intro v w' l n h
    obtain ⟨h1, h2 | ⟨g', cap', cur', h2, h3, h4⟩⟩ := h
    · exact ⟨h1, .inl h2⟩
    · exact ⟨h1, .inr ⟨g', cap', cur', h2, by omega, h4⟩⟩
  by_cases h0 : ad = none
  · subst h0
    obtain rfl : cap = 0 := hnil rfl
    obtain rfl : xs = [] := List.eq_nil_of_length_eq_zero (by omega)
    refine ⟨_, w, run_append_owned_none (P := Tryz.prog) (w := w) g t ty e i0 k ht hi _ 0 [] hrow, mono (by simpa [flat] using hrow), Below.refl _ _⟩
  · obtain ⟨ad, rfl⟩ := Option.ne_none_iff_exists'.1 h0
    have hnews : ∀ j u, (flat en xs)[j]? = some u → w.cell? (ad.add j) = some u := by
      intro j u hj
      obtain ⟨i, p, j', hip, rfl, hu⟩ := flat_inv hr xs j u hj
      obtain ⟨b', o', e', _, c0⟩ := hc i p hip
      simp only [Option.some.injEq] at e'
      subst e'
      rw [Go.WideShapes.add_plain]
      exact c0 j' u hu
    obtain ⟨v', w', r1, r2, r3, r4⟩ := run_append_own (P := Tryz.prog) w g t ty e i0 z k bytes ht hi hz0 hz1 hz2 hzs hr.1 _ 0 [] hrow ad xs.length cap (flat en xs) (flat_len hr xs) hnews (flat_one hr xs) (by unfold maxLen; omega) hb1 (by omega)
    have r2' : w'.ownsRow g e k v' xs.length (flat en xs) := by simpa using r2
    refine ⟨v', w', r1, mono r2', (Below.refl _ _).grown r3 (by omega) (by intro k hk; simp [Value.ownBlock] at hk; omega)⟩
theorem step_copyR {ops : Array Oper} {o : Oper} {a : Act} {w : World} {K : Act → World → Prop} {Q : Exit → Act → World → Prop} {E : Prop} (hgd : o.guard = none) (s x : Operand) (t e : TypeId) (z : Value) (bytes : Nat)
    (ho : o.op = .call { callee := .builtin .append, args := #[s, x], argTypes := #[t, t] }) (ht : Tryz.prog.underlying t = some (.slice e)) (hinfo : (Tryz.prog.info? e).map (fun i => (i.zero, i.size, i.bytes)) = some (some z, k, bytes)) (hzs : z.cells.size = k) (hby : bytes ≤ 1000) (hr : Rec k en)
    (g B : Nat) (xs : List α) (v : Value) (hs : a.eval s = .slice (some ⟨g, 0, none⟩) 0 0) (hown : w.heap[g]? = some (.cells #[] e (0, 0))) (hB : B ≤ g) (hx : a.eval x = v) (hv : RV k en w v xs) (hsm : xs.length ≤ 1000000)
    (h : ∀ v' w', Hid (OR k en w' B e v' xs) → Below B w w' → K (a.put o.dst v') w') :
    if Region.wanted o (yielded ops a.tmps) = true then Oper.wp Tryz.prog o a w K Q else E := by
  have hw : Region.wanted o (yielded ops a.tmps) = true := by simp [Region.wanted, hgd]
  rw [if_pos hw]
  obtain ⟨v', w', r1, r2, r3⟩ := run_copyR (w := w) t o.type e z bytes ht hinfo hzs hby hr g B hown hB xs v hv hsm
  unfold Oper.wp execOp
  simp only [ho, resolve, invoke, builtin, Sem.run_bind, Sem.run_pure, Result.andThen_ok, List.map_toArray, List.map_cons, List.map_nil, hs, hx, r1]
  exact h v' w' (Lib.hid r2) r3
end
theorem step_appP {ops : Array Oper} {o : Oper} {a : Act} {w : World} {K : Act → World → Prop} {Q : Exit → Act → World → Prop} {E : Prop} (hgd : o.guard = none) (s x : Operand)
    (ho : o.op = .call { callee := .builtin .append, args := #[s, x], argTypes := #[22, 22] })
    (B : Nat) (v : Value) (rows : List Value) (L : List (List I4)) (ad : Addr) (c : Nat) (u : Value) (xs : List I4) (hs : a.eval s = v) (hx : a.eval x = .slice (some ad) 1 c) (hown : OP w B v rows L) (hu : w.cell? ad = some u) (hux : OR 4 enI w B 35 u xs) (hpl : ad.add 0 = ad) (hsm : L.length ≤ 100000) (hB : B ≤ w.heap.size)
    (h : ∀ v' w', OP w' B v' (rows ++ [u]) (L ++ [xs]) → w.grownBy w' v.ownBlock → K (a.put o.dst v') w') :
    if Region.wanted o (yielded ops a.tmps) = true then Oper.wp Tryz.prog o a w K Q else E := by
  have hw : Region.wanted o (yielded ops a.tmps) = true := by simp [Region.wanted, hgd]
  rw [if_pos hw]
  obtain ⟨v', w', hr, h2, h3, h4⟩ := run_appP o.type B v rows L ad c u xs hown hu hux hpl hsm hB
  unfold Oper.wp execOp
  simp only [ho, resolve, invoke, builtin, Sem.run_bind, Sem.run_pure, Result.andThen_ok, List.map_toArray, List.map_cons, List.map_nil, hs, hx, hr]
  exact h v' w' h2 h3
theorem OR.mono {w : World} {B B' e : Nat} {u : Value} {xs : List I4} (h : OR 4 enI w B e u xs) (hb : B' ≤ B) : OR 4 enI w B' e u xs := by
  obtain ⟨h1, h2 | ⟨g', cap', cur', h2, h3, h4⟩⟩ := h
  · exact ⟨h1, .inl h2⟩
  · exact ⟨h1, .inr ⟨g', cap', cur', h2, by omega, h4⟩⟩
structure HO (w0 w : World) (m : Int) (pv v : Value) (rows : List Value) (acc : List (List I4)) : Prop where
  r0 : w.heap[w0.heap.size]? = some (.cells #[.int .i64 m, pv] 24 (0, 0))
  r1 : w.heap[w0.heap.size + 1]? = some (.cells #[.int .i64 0, .slice none 0 0] 24 (0, 0))
  r2 : w.heap[w0.heap.size + 2]? = some (.cells #[.int .i64 m, v] 24 (0, 0))
  own : OP w (w0.heap.size + 3) v rows acc
  bel : Below w0.heap.size w0 w
theorem HO.lt {w0 w : World} {m : Int} {pv v : Value} {rows : List Value} {acc : List (List I4)} (h : HO w0 w m pv v rows acc) : w0.heap.size + 3 ≤ w.heap.size := (Array.getElem?_eq_some_iff.1 h.r2).1
theorem HO.below {w0 w w' : World} {m : Int} {pv v : Value} {rows : List Value} {acc : List (List I4)} (h : HO w0 w m pv v rows acc) (hb : Below w.heap.size w w') : HO w0 w' m pv v rows acc := ⟨kb h.r0 hb, kb h.r1 hb, kb h.r2 hb, h.own.below hb, tr3 h.bel hb⟩
theorem HO.app {w0 w w' : World} {m : Int} {pv v v' : Value} {rows rows' : List Value} {acc acc' : List (List I4)} (h : HO w0 w m pv v rows acc) (hg : w.grownBy w' v.ownBlock) (ho : OP w' (w0.heap.size + 3) v' rows' acc') : HO w0 (w'.setCell ⟨w0.heap.size + 2, 1, none⟩ v') m pv v' rows' acc' ∧ w'.heap[w0.heap.size]? = some (.cells #[.int .i64 m, pv] 24 (0, 0)) ∧ w'.heap[w0.heap.size + 2]? = some (.cells #[.int .i64 m, v] 24 (0, 0)) ∧ Below w0.heap.size w0 w' := by
  have hlt := h.lt
  have hu := own_ltP h.own.1
  have hne : ∀ k, k < w0.heap.size + 3 → some k ≠ v.ownBlock := fun k hk e => by have := hu k e.symm; omega
  have r0 := (hg.block _ (by omega) (hne (w0.heap.size) (by omega))).trans h.r0
  have r2 := (hg.block _ (by omega) (hne (w0.heap.size + 2) (by omega))).trans h.r2
  have hb := h.bel.grown hg (by omega) (fun k e => by have := hu k e; omega)
  exact ⟨⟨(set_oth _ _ _ _ _ (by omega)).trans r0, (set_oth _ _ _ _ _ (by omega)).trans ((hg.block _ (by omega) (hne _ (by omega))).trans h.r1), set_blk _ _ _ _ r2, ho.keep (fun k hk => set_oth _ _ _ _ _ (by omega)), hb.setCell (p := ⟨w0.heap.size + 2, 1, none⟩) (by show w0.heap.size ≤ w0.heap.size + 2; omega) _⟩, r0, r2, hb⟩
theorem HO.init (w : World) (m : Int) (pv : Value) : HO w (((w.alloc (.cells #[.int .i64 m, pv] 24)).alloc (.cells #[.int .i64 0, .slice none 0 0] 24)).alloc (.cells #[.int .i64 m, .slice none 0 0] 24)) m pv (.slice none 0 0) [] [] := by
  have r0 := heap_new w #[.int .i64 m, pv] 24
  have r1 := heap_new (w.alloc (.cells #[.int .i64 m, pv] 24)) #[.int .i64 0, .slice none 0 0] 24
  have r2 := heap_new ((w.alloc (.cells #[.int .i64 m, pv] 24)).alloc (.cells #[.int .i64 0, .slice none 0 0] 24)) #[.int .i64 m, .slice none 0 0] 24
  refine ⟨kb r0 (by go_grown), ?_, ?_, OP.nil _ _, by go_grown⟩
  · have := kb r1 (W' := ((w.alloc (.cells #[.int .i64 m, pv] 24)).alloc (.cells #[.int .i64 0, .slice none 0 0] 24)).alloc (.cells #[.int .i64 m, .slice none 0 0] 24)) (by go_grown)
    simpa using this
  · simpa using r2
end Go.Proofs.YtgkfnplgldigbaaGreatDoor.pr
namespace Go.Proofs.YtgkfnplgldigbaaGreatDoor.pr
open Go.ChangeShapes Go.WideShapes Go.ChangeAt Go.RowKit
open Go.Proofs.YtgkfnplgldigbaaGreatDoor.bin Go.Proofs.YtgkfnplgldigbaaGreatDoor.bits Go.Proofs.YtgkfnplgldigbaaGreatDoor.ins
set_option linter.unusedVariables false
set_option linter.unusedSimpArgs false
theorem res_p1 {fn : Func} {A : Array Value} {W : World} {g : Nat} {a b : Value} {T : TypeId} (hfn : fn.results = #[.cell 2 24]) (h2 : A.getD 2 undef = .pointer (some ⟨g, 0, none⟩)) (hF : W.heap[g]? = some (.cells #[a, b] T (0, 0))) :
    (results fn A).run Tryz.prog W = .ok (.agg #[a, b]) W := by
  rw [Array.getD_eq_getD_getElem?] at h2
  have c0 : W.cell? ⟨g, 0, none⟩ = some a := cel hF 0
  have c1 : W.cell? ⟨g, 1, none⟩ = some b := cel hF 1
  simp [results, hfn, h2, go_sem, c0, c1]
set_option maxRecDepth 20000 in
set_option maxHeartbeats 4000000 in
theorem own_v (m : Int) (a : Option Addr) (n c : Nat) (L : List (List I4)) (w : World) (h : PM w (.slice a n c) L) (hS : Sm L) :
    Calls Tryz.prog 7 #[.agg #[.int .i64 m, .slice a n c]] w fun e w' => ∃ v rows, e = .returned (.agg #[.int .i64 m, v]) ∧ OP w' (w.heap.size + 3) v rows L ∧ Below w.heap.size w w' := by
  obtain ⟨hnl, hnc, hcm⟩ := h.len
  unfold maxLen at hcm
  have hn40 : n ≤ 40 := by rw [hnl]; exact hS.1
  have HR0 := Lib.hid h
  have HNL := Lib.hid hnl
  have HSM := Lib.hid hS.2
  have hI := HO.init w m (.slice a n c)
  obtain ⟨W, hW⟩ : ∃ W, (((w.alloc (.cells #[.int .i64 m, .slice a n c] 24)).alloc (.cells #[.int .i64 0, .slice none 0 0] 24)).alloc (.cells #[.int .i64 m, .slice none 0 0] 24)) = W := ⟨_, rfl⟩
  rw [hW] at hI
  have HW := Lib.hid hW
  have h0 : Hid (HO w W m (.slice a n c) (.slice none 0 0) [] (L.take 0)) := Lib.hid hI
  clear h hnl hW hI hS
  go_enter Tryz.func7, Tryz.ntmps7
  go_wp2_with fail
  rw [HW.out]
  clear HW
  go_loopw [4] (fun i wr => ∃ (k : Nat) (v : Value) (rows : List Value), i = .int .i64 (k : Int) ∧ k ≤ n ∧ Hid (HO w wr m (.slice a n c) v rows (L.take k))) (fun i _ => n - (intOf i).toNat)
  case atStart => exact ⟨0, _, _, rfl, by omega, h0⟩
  case round =>
    clear h0
    obtain ⟨k, v, rows, rfl, hk, HO1⟩ := hrel
    obtain ⟨d0, d1, e0, e1⟩ := cel2 HO1.out.r0
    clear e0 e1
    by_cases hlt : k < n
    · obtain ⟨b, o, ai, ci, rfl, hbl, z0, hrow⟩ := HR0.out.row k hlt
      have hl3 : (L.getD k []).length ≤ 300 := HSM.out k (by rw [← HNL.out]; exact hlt)
      have htk : L.take (k + 1) = L.take k ++ [L.getD k []] := by
        rw [List.take_add_one, List.getD_eq_getElem?_getD, List.getElem?_eq_getElem (by rw [← HNL.out]; exact hlt)]; simp
      obtain ⟨l, hl⟩ : ∃ l, L.getD k [] = l := ⟨_, rfl⟩
      rw [hl] at z0 hrow hl3 htk
      have HTK := Lib.hid htk
      have HRW := Lib.hid hrow
      have HZ := Lib.hid z0
      have htl : (L.take k).length ≤ 100000 := by rw [List.length_take]; omega
      have hplI : (k : Int) < (n : Int) := by omega
      obtain ⟨acc, hacc⟩ : ∃ acc, L.take k = acc := ⟨_, rfl⟩
      rw [hacc] at HO1 HTK htl
      have HGo : Hid (∀ w' : World, Below wr.heap.size wr w' → HO w w' m (.slice (some ⟨b, o, none⟩) n c) v rows acc) := Lib.hid fun w' hb => HO1.out.below hb
      have HRV : Hid (∀ w' : World, Below wr.heap.size wr w' → RV 4 enI w' (.slice ai l.length ci) l) := Lib.hid fun w' hb => HRW.out.below (HO1.out.below hb).bel
      have HSr : Hid (∀ (w' : World) (x y : Value), w'.heap[w.heap.size]? = some (.cells #[.int .i64 m, .slice (some ⟨b, o, none⟩) n c] 24 (0, 0)) → w'.heap[w.heap.size + 2]? = some (.cells #[x, y] 24 (0, 0)) → Below w.heap.size w w' → w'.cell? ⟨w.heap.size, 1, none⟩ = some (.slice (some ⟨b, o, none⟩) n c) ∧ w'.cell? ⟨b, o + k, none⟩ = some (.slice ai l.length ci) ∧ w'.cell? ⟨w.heap.size + 2, 1, none⟩ = some y ∧ w'.frozen? ⟨w.heap.size + 2, 1, none⟩ = false) := Lib.hid fun w' x y h0 h2 hb => by
        exact ⟨cel h0 1, kc HZ.out hb, cel h2 1, frz h2 1⟩
      have HSg : Hid (∀ w' : World, Below wr.heap.size wr w' → w'.cell? ⟨w.heap.size, 1, none⟩ = some (.slice (some ⟨b, o, none⟩) n c) ∧ w'.cell? ⟨b, o + k, none⟩ = some (.slice ai l.length ci) ∧ w'.cell? ⟨w.heap.size + 2, 1, none⟩ = some v ∧ w'.frozen? ⟨w.heap.size + 2, 1, none⟩ = false) := Lib.hid fun w' hb => HSr.out w' _ _ (HO1.out.below hb).r0 (HO1.out.below hb).r2 (HO1.out.below hb).bel
      have hwl : w.heap.size + 3 ≤ wr.heap.size := HO1.out.lt
      clear htk hl hacc z0 hrow HZ HRW
      go_wp2_with fail
      clear d0 d1
      have p1 : wr.cell? ⟨w.heap.size, 1, none⟩ = some (.slice (some ⟨b, o, none⟩) n c) := cel HO1.out.r0 1
      have p2 : wr.cell? ⟨w.heap.size + 1 + 1, 1, none⟩ = some v := cel HO1.out.r2 1
      have p3 : wr.cell? ⟨b, o + k, none⟩ = some (.slice ai l.length ci) := (HSg.out _ (Below.refl _ _)).2.1
      have q2 : ∀ w', Below wr.heap.size wr w' → w'.cell? ⟨w.heap.size + 1 + 1, 1, none⟩ = some v := fun w' hb => cel (HGo.out w' hb).r2 1
      have hw2 : ∀ w', Below wr.heap.size wr w' → w'.cell? ⟨w.heap.size, 1, none⟩ = some (.slice (some ⟨b, o, none⟩) n c) ∧ w'.cell? ⟨b, o + k, none⟩ = some (.slice ai l.length ci) ∧ w'.cell? ⟨w.heap.size + 1 + 1, 1, none⟩ = some v := fun w' hb => ⟨(HSg.out w' hb).1, (HSg.out w' hb).2.1, (HSg.out w' hb).2.2.1⟩
      obtain ⟨s1, s2, s3⟩ := hw2 wr.drew (by go_grown)
      obtain ⟨t1, t2, t3⟩ := hw2 ((wr.alloc (.cells #[] 35)).drew) (by go_grown)
      obtain ⟨t4, t5, t6⟩ := hw2 ((wr.alloc (.cells #[] 35))) (by go_grown)
      obtain ⟨t7, t8, t9⟩ := hw2 ((wr.drew.alloc (.cells #[] 35))) (by go_grown)
      refine wp_region_any (by kernel_rfl) ?_
      change wpAny _ _ _ _ _ _ _ (World.drew _)
      refine wpAny_take (i := 0) (v := ?_) rfl (by kernel_rfl) (by kernel_rfl) (by kernel_rfl) (fun _ _ _ h => h) (Or.inl ⟨by rfl, ?_⟩) ?_
      rotate_left
      · intro w9; go_simp; try with_reducible rfl
      refine wpAny_take (i := 3) (v := ?_) rfl (by kernel_rfl) (by kernel_rfl) (by kernel_rfl) (fun _ _ _ h => h) (Or.inl ⟨by rfl, ?_⟩) ?_
      rotate_left
      · intro w9; go_simp; try with_reducible rfl
      refine wpAny_take (i := 5) (v := ?_) rfl (by kernel_rfl) (by kernel_rfl) (by kernel_rfl) (fun _ _ _ h => h) (Or.inl ⟨by rfl, ?_⟩) ?_
      rotate_left
      · intro w9; go_simp; try with_reducible rfl
      refine wpAny_ready (rs := [1, 2, 4]) (by kernel_rfl) (by simp) ?_
      refine AllReady.cons rfl (fun K hK => ?_) ?_
      · go_simp
        refine hK _ _ ?_
        clear hK K
        refine wpAny_ready (rs := [2, 4]) (by kernel_rfl) (by simp) ?_
        refine AllReady.cons rfl (fun K hK => ?_) ?_
        · go_simp
          refine hK _ _ ?_
          clear hK K
          refine wpAny_ready (rs := [4]) (by kernel_rfl) (by simp) ?_
          refine AllReady.cons rfl (fun K hK => ?_) ?_
          · go_simp
            refine hK _ _ ?_
            clear hK K
            refine wpAny_take (i := 6) (v := ?_) rfl (by kernel_rfl) (by kernel_rfl) (by kernel_rfl) (fun _ _ _ h => h) (Or.inl ⟨by rfl, ?_⟩) ?_
            rotate_left
            · intro w9; go_simp; try with_reducible rfl
            refine wpAny_ready (rs := [7]) (by kernel_rfl) (by simp) ?_
            refine AllReady.cons rfl (fun K hK => ?_) ?_
            · go_simp
              refine hK _ _ ?_
              clear hK K
              refine wpAny_ready (rs := [8]) (by kernel_rfl) (by simp) ?_
              refine AllReady.cons rfl (fun K hK => ?_) ?_
              · refine step_copyR rfl _ _ 39 35 _ 32 (by rfl) Tryz.underlying39 infoI rfl (by decide) recI wr.heap.size wr.heap.size l (.slice ai l.length ci) rfl (heap_new wr #[] 35) (Nat.le_refl _) rfl (HRV.out _ (by go_grown)) (by omega) ?_
                intro v2 w2 ho2 hb2
                obtain ⟨va2, vc2, rfl⟩ := ho2.out.form
                have hb3 : Below wr.heap.size wr w2 := Below.trans (by go_grown) hb2
                obtain ⟨u1, u2, u3⟩ := hw2 w2 hb3
                obtain ⟨u4, u5, u6⟩ := hw2 (w2.alloc (.cells #[.slice va2 l.length vc2] 39)) (tr3 hb3 (by go_grown))
                refine hK _ _ ?_
                clear hK K
                refine wpAny_ready (rs := [9]) (by kernel_rfl) (by simp) ?_
                refine AllReady.cons rfl (fun K hK => ?_) ?_
                · go_simp
                  refine hK _ _ ?_
                  clear hK K
                  refine wpAny_ready (rs := [10]) (by kernel_rfl) (by simp) ?_
                  refine AllReady.cons rfl (fun K hK => ?_) ?_
                  · refine step_appP rfl _ _ (by rfl) (w.heap.size + 3) v rows acc ⟨w2.heap.size, 0, none⟩ 1 (.slice va2 l.length vc2) l rfl rfl (HGo.out _ (tr3 hb3 (by go_grown))).own (by go_simp) (OR.mono (ho2.out.below (by go_grown)) (by omega)) rfl (by omega) (HGo.out _ (tr3 hb3 (by go_grown))).lt ?_
                    intro v3 w3 ho3 hg3
                    obtain ⟨va3, vc3, rfl, _⟩ := ho3.pm.form
                    have hA := (HGo.out _ (tr3 hb3 (by go_grown))).app hg3 ho3
                    have hlen : (acc ++ [l]).length = acc.length + 1 := by simp
                    rw [hlen] at hA
                    obtain ⟨n0, n1, n2, n3⟩ := cel2 hA.2.2.1
                    have n1' : w3.cell? ⟨w.heap.size + 1 + 1, 1, none⟩ = some v := n1
                    have n3' : w3.frozen? ⟨w.heap.size + 1 + 1, 1, none⟩ = false := n3
                    refine hK _ _ ?_
                    clear hK K
                    refine wpAny_take (i := 11) (v := ?_) rfl (by kernel_rfl) (by kernel_rfl) (by kernel_rfl) (fun _ _ _ h => h) (Or.inl ⟨by rfl, ?_⟩) ?_
                    rotate_left
                    · intro w9; go_simp; try with_reducible rfl
                    refine wpAny_ready (rs := [12]) (by kernel_rfl) (by simp) ?_
                    refine AllReady.cons rfl (fun K hK => ?_) ?_
                    · go_simp
                      refine hK _ _ ?_
                      clear hK K
                      refine wpAny_done (by kernel_rfl) ?_ _
                      have HA := Lib.hid hA.1
                      rw [← HTK.out] at HA
                      clear hA hw2
                      go_wp2_with fail
                      go_roundw
                      case rel => exact ⟨k + 1, _, _, by go_num, by omega, HA⟩
                      case measure => simp [intOf]; omega
                    exact AllReady.nil
                  exact AllReady.nil
                exact AllReady.nil
              exact AllReady.nil
            exact AllReady.nil
          exact AllReady.nil
        refine AllReady.cons rfl (fun K hK => ?_) ?_
        · go_simp
          refine hK _ _ ?_
          clear hK K
          refine wpAny_take (i := 6) (v := ?_) rfl (by kernel_rfl) (by kernel_rfl) (by kernel_rfl) (fun _ _ _ h => h) (Or.inl ⟨by rfl, ?_⟩) ?_
          rotate_left
          · intro w9; go_simp; try with_reducible rfl
          refine wpAny_ready (rs := [2, 7]) (by kernel_rfl) (by simp) ?_
          refine AllReady.cons rfl (fun K hK => ?_) ?_
          · go_simp
            refine hK _ _ ?_
            clear hK K
            refine wpAny_ready (rs := [7]) (by kernel_rfl) (by simp) ?_
            refine AllReady.cons rfl (fun K hK => ?_) ?_
            · go_simp
              refine hK _ _ ?_
              clear hK K
              refine wpAny_ready (rs := [8]) (by kernel_rfl) (by simp) ?_
              refine AllReady.cons rfl (fun K hK => ?_) ?_
              · refine step_copyR rfl _ _ 39 35 _ 32 (by rfl) Tryz.underlying39 infoI rfl (by decide) recI wr.heap.size wr.heap.size l (.slice ai l.length ci) rfl (heap_new wr #[] 35) (Nat.le_refl _) rfl (HRV.out _ (by go_grown)) (by omega) ?_
                intro v2 w2 ho2 hb2
                obtain ⟨va2, vc2, rfl⟩ := ho2.out.form
                have hb3 : Below wr.heap.size wr w2 := Below.trans (by go_grown) hb2
                obtain ⟨u1, u2, u3⟩ := hw2 w2 hb3
                obtain ⟨u4, u5, u6⟩ := hw2 (w2.alloc (.cells #[.slice va2 l.length vc2] 39)) (tr3 hb3 (by go_grown))
                refine hK _ _ ?_
                clear hK K
                refine wpAny_ready (rs := [9]) (by kernel_rfl) (by simp) ?_
                refine AllReady.cons rfl (fun K hK => ?_) ?_
                · go_simp
                  refine hK _ _ ?_
                  clear hK K
                  refine wpAny_ready (rs := [10]) (by kernel_rfl) (by simp) ?_
                  refine AllReady.cons rfl (fun K hK => ?_) ?_
                  · refine step_appP rfl _ _ (by rfl) (w.heap.size + 3) v rows acc ⟨w2.heap.size, 0, none⟩ 1 (.slice va2 l.length vc2) l rfl rfl (HGo.out _ (tr3 hb3 (by go_grown))).own (by go_simp) (OR.mono (ho2.out.below (by go_grown)) (by omega)) rfl (by omega) (HGo.out _ (tr3 hb3 (by go_grown))).lt ?_
                    intro v3 w3 ho3 hg3
                    obtain ⟨va3, vc3, rfl, _⟩ := ho3.pm.form
                    have hA := (HGo.out _ (tr3 hb3 (by go_grown))).app hg3 ho3
                    have hlen : (acc ++ [l]).length = acc.length + 1 := by simp
                    rw [hlen] at hA
                    obtain ⟨n0, n1, n2, n3⟩ := cel2 hA.2.2.1
                    have n1' : w3.cell? ⟨w.heap.size + 1 + 1, 1, none⟩ = some v := n1
                    have n3' : w3.frozen? ⟨w.heap.size + 1 + 1, 1, none⟩ = false := n3
                    refine hK _ _ ?_
                    clear hK K
                    refine wpAny_take (i := 11) (v := ?_) rfl (by kernel_rfl) (by kernel_rfl) (by kernel_rfl) (fun _ _ _ h => h) (Or.inl ⟨by rfl, ?_⟩) ?_
                    rotate_left
                    · intro w9; go_simp; try with_reducible rfl
                    refine wpAny_ready (rs := [12]) (by kernel_rfl) (by simp) ?_
                    refine AllReady.cons rfl (fun K hK => ?_) ?_
                    · go_simp
                      refine hK _ _ ?_
                      clear hK K
                      refine wpAny_done (by kernel_rfl) ?_ _
                      have HA := Lib.hid hA.1
                      rw [← HTK.out] at HA
                      clear hA hw2
                      go_wp2_with fail
                      go_roundw
                      case rel => exact ⟨k + 1, _, _, by go_num, by omega, HA⟩
                      case measure => simp [intOf]; omega
                    exact AllReady.nil
                  exact AllReady.nil
                exact AllReady.nil
              exact AllReady.nil
            exact AllReady.nil
          refine AllReady.cons rfl (fun K hK => ?_) ?_
          · go_simp
            refine hK _ _ ?_
            clear hK K
            refine wpAny_ready (rs := [2]) (by kernel_rfl) (by simp) ?_
            refine AllReady.cons rfl (fun K hK => ?_) ?_
            · go_simp
              refine hK _ _ ?_
              clear hK K
              refine wpAny_ready (rs := [8]) (by kernel_rfl) (by simp) ?_
              refine AllReady.cons rfl (fun K hK => ?_) ?_
              · refine step_copyR rfl _ _ 39 35 _ 32 (by rfl) Tryz.underlying39 infoI rfl (by decide) recI wr.heap.size wr.heap.size l (.slice ai l.length ci) rfl (heap_new wr #[] 35) (Nat.le_refl _) rfl (HRV.out _ (by go_grown)) (by omega) ?_
                intro v2 w2 ho2 hb2
                obtain ⟨va2, vc2, rfl⟩ := ho2.out.form
                have hb3 : Below wr.heap.size wr w2 := Below.trans (by go_grown) hb2
                obtain ⟨u1, u2, u3⟩ := hw2 w2 hb3
                obtain ⟨u4, u5, u6⟩ := hw2 (w2.alloc (.cells #[.slice va2 l.length vc2] 39)) (tr3 hb3 (by go_grown))
                refine hK _ _ ?_
                clear hK K
                refine wpAny_ready (rs := [9]) (by kernel_rfl) (by simp) ?_
                refine AllReady.cons rfl (fun K hK => ?_) ?_
                · go_simp
                  refine hK _ _ ?_
                  clear hK K
                  refine wpAny_ready (rs := [10]) (by kernel_rfl) (by simp) ?_
                  refine AllReady.cons rfl (fun K hK => ?_) ?_
                  · refine step_appP rfl _ _ (by rfl) (w.heap.size + 3) v rows acc ⟨w2.heap.size, 0, none⟩ 1 (.slice va2 l.length vc2) l rfl rfl (HGo.out _ (tr3 hb3 (by go_grown))).own (by go_simp) (OR.mono (ho2.out.below (by go_grown)) (by omega)) rfl (by omega) (HGo.out _ (tr3 hb3 (by go_grown))).lt ?_
                    intro v3 w3 ho3 hg3
                    obtain ⟨va3, vc3, rfl, _⟩ := ho3.pm.form
                    have hA := (HGo.out _ (tr3 hb3 (by go_grown))).app hg3 ho3
                    have hlen : (acc ++ [l]).length = acc.length + 1 := by simp
                    rw [hlen] at hA
                    obtain ⟨n0, n1, n2, n3⟩ := cel2 hA.2.2.1
                    have n1' : w3.cell? ⟨w.heap.size + 1 + 1, 1, none⟩ = some v := n1
                    have n3' : w3.frozen? ⟨w.heap.size + 1 + 1, 1, none⟩ = false := n3
                    refine hK _ _ ?_
                    clear hK K
                    refine wpAny_take (i := 11) (v := ?_) rfl (by kernel_rfl) (by kernel_rfl) (by kernel_rfl) (fun _ _ _ h => h) (Or.inl ⟨by rfl, ?_⟩) ?_
                    rotate_left
                    · intro w9; go_simp; try with_reducible rfl
                    refine wpAny_ready (rs := [12]) (by kernel_rfl) (by simp) ?_
                    refine AllReady.cons rfl (fun K hK => ?_) ?_
                    · go_simp
                      refine hK _ _ ?_
                      clear hK K
                      refine wpAny_done (by kernel_rfl) ?_ _
                      have HA := Lib.hid hA.1
                      rw [← HTK.out] at HA
                      clear hA hw2
                      go_wp2_with fail
                      go_roundw
                      case rel => exact ⟨k + 1, _, _, by go_num, by omega, HA⟩
                      case measure => simp [intOf]; omega
                    exact AllReady.nil
                  exact AllReady.nil
                exact AllReady.nil
              exact AllReady.nil
            exact AllReady.nil
          exact AllReady.nil
        exact AllReady.nil
      refine AllReady.cons rfl (fun K hK => ?_) ?_
      · go_simp
        refine hK _ _ ?_
        clear hK K
        refine wpAny_ready (rs := [1, 4]) (by kernel_rfl) (by simp) ?_
        refine AllReady.cons rfl (fun K hK => ?_) ?_
        · go_simp
          refine hK _ _ ?_
          clear hK K
          refine wpAny_ready (rs := [4]) (by kernel_rfl) (by simp) ?_
          refine AllReady.cons rfl (fun K hK => ?_) ?_
          · go_simp
            refine hK _ _ ?_
            clear hK K
            refine wpAny_take (i := 6) (v := ?_) rfl (by kernel_rfl) (by kernel_rfl) (by kernel_rfl) (fun _ _ _ h => h) (Or.inl ⟨by rfl, ?_⟩) ?_
            rotate_left
            · intro w9; go_simp; try with_reducible rfl
            refine wpAny_ready (rs := [7]) (by kernel_rfl) (by simp) ?_
            refine AllReady.cons rfl (fun K hK => ?_) ?_
            · go_simp
              refine hK _ _ ?_
              clear hK K
              refine wpAny_ready (rs := [8]) (by kernel_rfl) (by simp) ?_
              refine AllReady.cons rfl (fun K hK => ?_) ?_
              · refine step_copyR rfl _ _ 39 35 _ 32 (by rfl) Tryz.underlying39 infoI rfl (by decide) recI wr.heap.size wr.heap.size l (.slice ai l.length ci) rfl (heap_new wr #[] 35) (Nat.le_refl _) rfl (HRV.out _ (by go_grown)) (by omega) ?_
                intro v2 w2 ho2 hb2
                obtain ⟨va2, vc2, rfl⟩ := ho2.out.form
                have hb3 : Below wr.heap.size wr w2 := Below.trans (by go_grown) hb2
                obtain ⟨u1, u2, u3⟩ := hw2 w2 hb3
                obtain ⟨u4, u5, u6⟩ := hw2 (w2.alloc (.cells #[.slice va2 l.length vc2] 39)) (tr3 hb3 (by go_grown))
                refine hK _ _ ?_
                clear hK K
                refine wpAny_ready (rs := [9]) (by kernel_rfl) (by simp) ?_
                refine AllReady.cons rfl (fun K hK => ?_) ?_
                · go_simp
                  refine hK _ _ ?_
                  clear hK K
                  refine wpAny_ready (rs := [10]) (by kernel_rfl) (by simp) ?_
                  refine AllReady.cons rfl (fun K hK => ?_) ?_
                  · refine step_appP rfl _ _ (by rfl) (w.heap.size + 3) v rows acc ⟨w2.heap.size, 0, none⟩ 1 (.slice va2 l.length vc2) l rfl rfl (HGo.out _ (tr3 hb3 (by go_grown))).own (by go_simp) (OR.mono (ho2.out.below (by go_grown)) (by omega)) rfl (by omega) (HGo.out _ (tr3 hb3 (by go_grown))).lt ?_
                    intro v3 w3 ho3 hg3
                    obtain ⟨va3, vc3, rfl, _⟩ := ho3.pm.form
                    have hA := (HGo.out _ (tr3 hb3 (by go_grown))).app hg3 ho3
                    have hlen : (acc ++ [l]).length = acc.length + 1 := by simp
                    rw [hlen] at hA
                    obtain ⟨n0, n1, n2, n3⟩ := cel2 hA.2.2.1
                    have n1' : w3.cell? ⟨w.heap.size + 1 + 1, 1, none⟩ = some v := n1
                    have n3' : w3.frozen? ⟨w.heap.size + 1 + 1, 1, none⟩ = false := n3
                    refine hK _ _ ?_
                    clear hK K
                    refine wpAny_take (i := 11) (v := ?_) rfl (by kernel_rfl) (by kernel_rfl) (by kernel_rfl) (fun _ _ _ h => h) (Or.inl ⟨by rfl, ?_⟩) ?_
                    rotate_left
                    · intro w9; go_simp; try with_reducible rfl
                    refine wpAny_ready (rs := [12]) (by kernel_rfl) (by simp) ?_
                    refine AllReady.cons rfl (fun K hK => ?_) ?_
                    · go_simp
                      refine hK _ _ ?_
                      clear hK K
                      refine wpAny_done (by kernel_rfl) ?_ _
                      have HA := Lib.hid hA.1
                      rw [← HTK.out] at HA
                      clear hA hw2
                      go_wp2_with fail
                      go_roundw
                      case rel => exact ⟨k + 1, _, _, by go_num, by omega, HA⟩
                      case measure => simp [intOf]; omega
                    exact AllReady.nil
                  exact AllReady.nil
                exact AllReady.nil
              exact AllReady.nil
            exact AllReady.nil
          exact AllReady.nil
        refine AllReady.cons rfl (fun K hK => ?_) ?_
        · go_simp
          refine hK _ _ ?_
          clear hK K
          refine wpAny_take (i := 6) (v := ?_) rfl (by kernel_rfl) (by kernel_rfl) (by kernel_rfl) (fun _ _ _ h => h) (Or.inl ⟨by rfl, ?_⟩) ?_
          rotate_left
          · intro w9; go_simp; try with_reducible rfl
          refine wpAny_ready (rs := [1, 7]) (by kernel_rfl) (by simp) ?_
          refine AllReady.cons rfl (fun K hK => ?_) ?_
          · go_simp
            refine hK _ _ ?_
            clear hK K
            refine wpAny_ready (rs := [7]) (by kernel_rfl) (by simp) ?_
            refine AllReady.cons rfl (fun K hK => ?_) ?_
            · go_simp
              refine hK _ _ ?_
              clear hK K
              refine wpAny_ready (rs := [8]) (by kernel_rfl) (by simp) ?_
              refine AllReady.cons rfl (fun K hK => ?_) ?_
              · refine step_copyR rfl _ _ 39 35 _ 32 (by rfl) Tryz.underlying39 infoI rfl (by decide) recI wr.heap.size wr.heap.size l (.slice ai l.length ci) rfl (heap_new wr #[] 35) (Nat.le_refl _) rfl (HRV.out _ (by go_grown)) (by omega) ?_
                intro v2 w2 ho2 hb2
                obtain ⟨va2, vc2, rfl⟩ := ho2.out.form
                have hb3 : Below wr.heap.size wr w2 := Below.trans (by go_grown) hb2
                obtain ⟨u1, u2, u3⟩ := hw2 w2 hb3
                obtain ⟨u4, u5, u6⟩ := hw2 (w2.alloc (.cells #[.slice va2 l.length vc2] 39)) (tr3 hb3 (by go_grown))
                refine hK _ _ ?_
                clear hK K
                refine wpAny_ready (rs := [9]) (by kernel_rfl) (by simp) ?_
                refine AllReady.cons rfl (fun K hK => ?_) ?_
                · go_simp
                  refine hK _ _ ?_
                  clear hK K
                  refine wpAny_ready (rs := [10]) (by kernel_rfl) (by simp) ?_
                  refine AllReady.cons rfl (fun K hK => ?_) ?_
                  · refine step_appP rfl _ _ (by rfl) (w.heap.size + 3) v rows acc ⟨w2.heap.size, 0, none⟩ 1 (.slice va2 l.length vc2) l rfl rfl (HGo.out _ (tr3 hb3 (by go_grown))).own (by go_simp) (OR.mono (ho2.out.below (by go_grown)) (by omega)) rfl (by omega) (HGo.out _ (tr3 hb3 (by go_grown))).lt ?_
                    intro v3 w3 ho3 hg3
                    obtain ⟨va3, vc3, rfl, _⟩ := ho3.pm.form
                    have hA := (HGo.out _ (tr3 hb3 (by go_grown))).app hg3 ho3
                    have hlen : (acc ++ [l]).length = acc.length + 1 := by simp
                    rw [hlen] at hA
                    obtain ⟨n0, n1, n2, n3⟩ := cel2 hA.2.2.1
                    have n1' : w3.cell? ⟨w.heap.size + 1 + 1, 1, none⟩ = some v := n1
                    have n3' : w3.frozen? ⟨w.heap.size + 1 + 1, 1, none⟩ = false := n3
                    refine hK _ _ ?_
                    clear hK K
                    refine wpAny_take (i := 11) (v := ?_) rfl (by kernel_rfl) (by kernel_rfl) (by kernel_rfl) (fun _ _ _ h => h) (Or.inl ⟨by rfl, ?_⟩) ?_
                    rotate_left
                    · intro w9; go_simp; try with_reducible rfl
                    refine wpAny_ready (rs := [12]) (by kernel_rfl) (by simp) ?_
                    refine AllReady.cons rfl (fun K hK => ?_) ?_
                    · go_simp
                      refine hK _ _ ?_
                      clear hK K
                      refine wpAny_done (by kernel_rfl) ?_ _
                      have HA := Lib.hid hA.1
                      rw [← HTK.out] at HA
                      clear hA hw2
                      go_wp2_with fail
                      go_roundw
                      case rel => exact ⟨k + 1, _, _, by go_num, by omega, HA⟩
                      case measure => simp [intOf]; omega
                    exact AllReady.nil
                  exact AllReady.nil
                exact AllReady.nil
              exact AllReady.nil
            exact AllReady.nil
          refine AllReady.cons rfl (fun K hK => ?_) ?_
          · go_simp
            refine hK _ _ ?_
            clear hK K
            refine wpAny_ready (rs := [1, 8]) (by kernel_rfl) (by simp) ?_
            refine AllReady.cons rfl (fun K hK => ?_) ?_
            · go_simp
              refine hK _ _ ?_
              clear hK K
              refine wpAny_ready (rs := [8]) (by kernel_rfl) (by simp) ?_
              refine AllReady.cons rfl (fun K hK => ?_) ?_
              · refine step_copyR rfl _ _ 39 35 _ 32 (by rfl) Tryz.underlying39 infoI rfl (by decide) recI wr.heap.size wr.heap.size l (.slice ai l.length ci) rfl (heap_new wr #[] 35) (Nat.le_refl _) rfl (HRV.out _ (by go_grown)) (by omega) ?_
                intro v2 w2 ho2 hb2
                obtain ⟨va2, vc2, rfl⟩ := ho2.out.form
                have hb3 : Below wr.heap.size wr w2 := Below.trans (by go_grown) hb2
                obtain ⟨u1, u2, u3⟩ := hw2 w2 hb3
                obtain ⟨u4, u5, u6⟩ := hw2 (w2.alloc (.cells #[.slice va2 l.length vc2] 39)) (tr3 hb3 (by go_grown))
                refine hK _ _ ?_
                clear hK K
                refine wpAny_ready (rs := [9]) (by kernel_rfl) (by simp) ?_
                refine AllReady.cons rfl (fun K hK => ?_) ?_
                · go_simp
                  refine hK _ _ ?_
                  clear hK K
                  refine wpAny_ready (rs := [10]) (by kernel_rfl) (by simp) ?_
                  refine AllReady.cons rfl (fun K hK => ?_) ?_
                  · refine step_appP rfl _ _ (by rfl) (w.heap.size + 3) v rows acc ⟨w2.heap.size, 0, none⟩ 1 (.slice va2 l.length vc2) l rfl rfl (HGo.out _ (tr3 hb3 (by go_grown))).own (by go_simp) (OR.mono (ho2.out.below (by go_grown)) (by omega)) rfl (by omega) (HGo.out _ (tr3 hb3 (by go_grown))).lt ?_
                    intro v3 w3 ho3 hg3
                    obtain ⟨va3, vc3, rfl, _⟩ := ho3.pm.form
                    have hA := (HGo.out _ (tr3 hb3 (by go_grown))).app hg3 ho3
                    have hlen : (acc ++ [l]).length = acc.length + 1 := by simp
                    rw [hlen] at hA
                    obtain ⟨n0, n1, n2, n3⟩ := cel2 hA.2.2.1
                    have n1' : w3.cell? ⟨w.heap.size + 1 + 1, 1, none⟩ = some v := n1
                    have n3' : w3.frozen? ⟨w.heap.size + 1 + 1, 1, none⟩ = false := n3
                    refine hK _ _ ?_
                    clear hK K
                    refine wpAny_take (i := 11) (v := ?_) rfl (by kernel_rfl) (by kernel_rfl) (by kernel_rfl) (fun _ _ _ h => h) (Or.inl ⟨by rfl, ?_⟩) ?_
                    rotate_left
                    · intro w9; go_simp; try with_reducible rfl
                    refine wpAny_ready (rs := [12]) (by kernel_rfl) (by simp) ?_
                    refine AllReady.cons rfl (fun K hK => ?_) ?_
                    · go_simp
                      refine hK _ _ ?_
                      clear hK K
                      refine wpAny_done (by kernel_rfl) ?_ _
                      have HA := Lib.hid hA.1
                      rw [← HTK.out] at HA
                      clear hA hw2
                      go_wp2_with fail
                      go_roundw
                      case rel => exact ⟨k + 1, _, _, by go_num, by omega, HA⟩
                      case measure => simp [intOf]; omega
                    exact AllReady.nil
                  exact AllReady.nil
                exact AllReady.nil
              exact AllReady.nil
            refine AllReady.cons rfl (fun K hK => ?_) ?_
            · refine step_copyR rfl _ _ 39 35 _ 32 (by rfl) Tryz.underlying39 infoI rfl (by decide) recI wr.heap.size wr.heap.size l (.slice ai l.length ci) rfl (heap_new wr #[] 35) (Nat.le_refl _) rfl (HRV.out _ (by go_grown)) (by omega) ?_
              intro v2 w2 ho2 hb2
              obtain ⟨va2, vc2, rfl⟩ := ho2.out.form
              have hb3 : Below wr.heap.size wr w2 := Below.trans (by go_grown) hb2
              obtain ⟨u1, u2, u3⟩ := hw2 w2 hb3
              obtain ⟨u4, u5, u6⟩ := hw2 (w2.alloc (.cells #[.slice va2 l.length vc2] 39)) (tr3 hb3 (by go_grown))
              refine hK _ _ ?_
              clear hK K
              refine wpAny_ready (rs := [1, 9]) (by kernel_rfl) (by simp) ?_
              refine AllReady.cons rfl (fun K hK => ?_) ?_
              · go_simp
                refine hK _ _ ?_
                clear hK K
                refine wpAny_ready (rs := [9]) (by kernel_rfl) (by simp) ?_
                refine AllReady.cons rfl (fun K hK => ?_) ?_
                · go_simp
                  refine hK _ _ ?_
                  clear hK K
                  refine wpAny_ready (rs := [10]) (by kernel_rfl) (by simp) ?_
                  refine AllReady.cons rfl (fun K hK => ?_) ?_
                  · refine step_appP rfl _ _ (by rfl) (w.heap.size + 3) v rows acc ⟨w2.heap.size, 0, none⟩ 1 (.slice va2 l.length vc2) l rfl rfl (HGo.out _ (tr3 hb3 (by go_grown))).own (by go_simp) (OR.mono (ho2.out.below (by go_grown)) (by omega)) rfl (by omega) (HGo.out _ (tr3 hb3 (by go_grown))).lt ?_
                    intro v3 w3 ho3 hg3
                    obtain ⟨va3, vc3, rfl, _⟩ := ho3.pm.form
                    have hA := (HGo.out _ (tr3 hb3 (by go_grown))).app hg3 ho3
                    have hlen : (acc ++ [l]).length = acc.length + 1 := by simp
                    rw [hlen] at hA
                    obtain ⟨n0, n1, n2, n3⟩ := cel2 hA.2.2.1
                    have n1' : w3.cell? ⟨w.heap.size + 1 + 1, 1, none⟩ = some v := n1
                    have n3' : w3.frozen? ⟨w.heap.size + 1 + 1, 1, none⟩ = false := n3
                    refine hK _ _ ?_
                    clear hK K
                    refine wpAny_take (i := 11) (v := ?_) rfl (by kernel_rfl) (by kernel_rfl) (by kernel_rfl) (fun _ _ _ h => h) (Or.inl ⟨by rfl, ?_⟩) ?_
                    rotate_left
                    · intro w9; go_simp; try with_reducible rfl
                    refine wpAny_ready (rs := [12]) (by kernel_rfl) (by simp) ?_
                    refine AllReady.cons rfl (fun K hK => ?_) ?_
                    · go_simp
                      refine hK _ _ ?_
                      clear hK K
                      refine wpAny_done (by kernel_rfl) ?_ _
                      have HA := Lib.hid hA.1
                      rw [← HTK.out] at HA
                      clear hA hw2
                      go_wp2_with fail
                      go_roundw
                      case rel => exact ⟨k + 1, _, _, by go_num, by omega, HA⟩
                      case measure => simp [intOf]; omega
                    exact AllReady.nil
                  exact AllReady.nil
                exact AllReady.nil
              refine AllReady.cons rfl (fun K hK => ?_) ?_
              · go_simp
                refine hK _ _ ?_
                clear hK K
                refine wpAny_ready (rs := [1]) (by kernel_rfl) (by simp) ?_
                refine AllReady.cons rfl (fun K hK => ?_) ?_
                · go_simp
                  refine hK _ _ ?_
                  clear hK K
                  refine wpAny_ready (rs := [10]) (by kernel_rfl) (by simp) ?_
                  refine AllReady.cons rfl (fun K hK => ?_) ?_
                  · refine step_appP rfl _ _ (by rfl) (w.heap.size + 3) v rows acc ⟨w2.heap.size, 0, none⟩ 1 (.slice va2 l.length vc2) l rfl rfl (HGo.out _ (tr3 hb3 (by go_grown))).own (by go_simp) (OR.mono (ho2.out.below (by go_grown)) (by omega)) rfl (by omega) (HGo.out _ (tr3 hb3 (by go_grown))).lt ?_
                    intro v3 w3 ho3 hg3
                    obtain ⟨va3, vc3, rfl, _⟩ := ho3.pm.form
                    have hA := (HGo.out _ (tr3 hb3 (by go_grown))).app hg3 ho3
                    have hlen : (acc ++ [l]).length = acc.length + 1 := by simp
                    rw [hlen] at hA
                    obtain ⟨n0, n1, n2, n3⟩ := cel2 hA.2.2.1
                    have n1' : w3.cell? ⟨w.heap.size + 1 + 1, 1, none⟩ = some v := n1
                    have n3' : w3.frozen? ⟨w.heap.size + 1 + 1, 1, none⟩ = false := n3
                    refine hK _ _ ?_
                    clear hK K
                    refine wpAny_take (i := 11) (v := ?_) rfl (by kernel_rfl) (by kernel_rfl) (by kernel_rfl) (fun _ _ _ h => h) (Or.inl ⟨by rfl, ?_⟩) ?_
                    rotate_left
                    · intro w9; go_simp; try with_reducible rfl
                    refine wpAny_ready (rs := [12]) (by kernel_rfl) (by simp) ?_
                    refine AllReady.cons rfl (fun K hK => ?_) ?_
                    · go_simp
                      refine hK _ _ ?_
                      clear hK K
                      refine wpAny_done (by kernel_rfl) ?_ _
                      have HA := Lib.hid hA.1
                      rw [← HTK.out] at HA
                      clear hA hw2
                      go_wp2_with fail
                      go_roundw
                      case rel => exact ⟨k + 1, _, _, by go_num, by omega, HA⟩
                      case measure => simp [intOf]; omega
                    exact AllReady.nil
                  exact AllReady.nil
                exact AllReady.nil
              exact AllReady.nil
            exact AllReady.nil
          exact AllReady.nil
        exact AllReady.nil
      refine AllReady.cons rfl (fun K hK => ?_) ?_
      · go_simp
        refine hK _ _ ?_
        clear hK K
        refine wpAny_take (i := 6) (v := ?_) rfl (by kernel_rfl) (by kernel_rfl) (by kernel_rfl) (fun _ _ _ h => h) (Or.inl ⟨by rfl, ?_⟩) ?_
        rotate_left
        · intro w9; go_simp; try with_reducible rfl
        refine wpAny_ready (rs := [1, 2, 7]) (by kernel_rfl) (by simp) ?_
        refine AllReady.cons rfl (fun K hK => ?_) ?_
        · go_simp
          refine hK _ _ ?_
          clear hK K
          refine wpAny_ready (rs := [2, 7]) (by kernel_rfl) (by simp) ?_
          refine AllReady.cons rfl (fun K hK => ?_) ?_
          · go_simp
            refine hK _ _ ?_
            clear hK K
            refine wpAny_ready (rs := [7]) (by kernel_rfl) (by simp) ?_
            refine AllReady.cons rfl (fun K hK => ?_) ?_
            · go_simp
              refine hK _ _ ?_
              clear hK K
              refine wpAny_ready (rs := [8]) (by kernel_rfl) (by simp) ?_
              refine AllReady.cons rfl (fun K hK => ?_) ?_
              · refine step_copyR rfl _ _ 39 35 _ 32 (by rfl) Tryz.underlying39 infoI rfl (by decide) recI wr.heap.size wr.heap.size l (.slice ai l.length ci) rfl (heap_new wr #[] 35) (Nat.le_refl _) rfl (HRV.out _ (by go_grown)) (by omega) ?_
                intro v2 w2 ho2 hb2
                obtain ⟨va2, vc2, rfl⟩ := ho2.out.form
                have hb3 : Below wr.heap.size wr w2 := Below.trans (by go_grown) hb2
                obtain ⟨u1, u2, u3⟩ := hw2 w2 hb3
                obtain ⟨u4, u5, u6⟩ := hw2 (w2.alloc (.cells #[.slice va2 l.length vc2] 39)) (tr3 hb3 (by go_grown))
                refine hK _ _ ?_
                clear hK K
                refine wpAny_ready (rs := [9]) (by kernel_rfl) (by simp) ?_
                refine AllReady.cons rfl (fun K hK => ?_) ?_
                · go_simp
                  refine hK _ _ ?_
                  clear hK K
                  refine wpAny_ready (rs := [10]) (by kernel_rfl) (by simp) ?_
                  refine AllReady.cons rfl (fun K hK => ?_) ?_
                  · refine step_appP rfl _ _ (by rfl) (w.heap.size + 3) v rows acc ⟨w2.heap.size, 0, none⟩ 1 (.slice va2 l.length vc2) l rfl rfl (HGo.out _ (tr3 hb3 (by go_grown))).own (by go_simp) (OR.mono (ho2.out.below (by go_grown)) (by omega)) rfl (by omega) (HGo.out _ (tr3 hb3 (by go_grown))).lt ?_
                    intro v3 w3 ho3 hg3
                    obtain ⟨va3, vc3, rfl, _⟩ := ho3.pm.form
                    have hA := (HGo.out _ (tr3 hb3 (by go_grown))).app hg3 ho3
                    have hlen : (acc ++ [l]).length = acc.length + 1 := by simp
                    rw [hlen] at hA
                    obtain ⟨n0, n1, n2, n3⟩ := cel2 hA.2.2.1
                    have n1' : w3.cell? ⟨w.heap.size + 1 + 1, 1, none⟩ = some v := n1
                    have n3' : w3.frozen? ⟨w.heap.size + 1 + 1, 1, none⟩ = false := n3
                    refine hK _ _ ?_
                    clear hK K
                    refine wpAny_take (i := 11) (v := ?_) rfl (by kernel_rfl) (by kernel_rfl) (by kernel_rfl) (fun _ _ _ h => h) (Or.inl ⟨by rfl, ?_⟩) ?_
                    rotate_left
                    · intro w9; go_simp; try with_reducible rfl
                    refine wpAny_ready (rs := [12]) (by kernel_rfl) (by simp) ?_
                    refine AllReady.cons rfl (fun K hK => ?_) ?_
                    · go_simp
                      refine hK _ _ ?_
                      clear hK K
                      refine wpAny_done (by kernel_rfl) ?_ _
                      have HA := Lib.hid hA.1
                      rw [← HTK.out] at HA
                      clear hA hw2
                      go_wp2_with fail
                      go_roundw
                      case rel => exact ⟨k + 1, _, _, by go_num, by omega, HA⟩
                      case measure => simp [intOf]; omega
                    exact AllReady.nil
                  exact AllReady.nil
                exact AllReady.nil
              exact AllReady.nil
            exact AllReady.nil
          refine AllReady.cons rfl (fun K hK => ?_) ?_
          · go_simp
            refine hK _ _ ?_
            clear hK K
            refine wpAny_ready (rs := [2]) (by kernel_rfl) (by simp) ?_
            refine AllReady.cons rfl (fun K hK => ?_) ?_
            · go_simp
              refine hK _ _ ?_
              clear hK K
              refine wpAny_ready (rs := [8]) (by kernel_rfl) (by simp) ?_
              refine AllReady.cons rfl (fun K hK => ?_) ?_
              · refine step_copyR rfl _ _ 39 35 _ 32 (by rfl) Tryz.underlying39 infoI rfl (by decide) recI wr.heap.size wr.heap.size l (.slice ai l.length ci) rfl (heap_new wr #[] 35) (Nat.le_refl _) rfl (HRV.out _ (by go_grown)) (by omega) ?_
                intro v2 w2 ho2 hb2
                obtain ⟨va2, vc2, rfl⟩ := ho2.out.form
                have hb3 : Below wr.heap.size wr w2 := Below.trans (by go_grown) hb2
                obtain ⟨u1, u2, u3⟩ := hw2 w2 hb3
                obtain ⟨u4, u5, u6⟩ := hw2 (w2.alloc (.cells #[.slice va2 l.length vc2] 39)) (tr3 hb3 (by go_grown))
                refine hK _ _ ?_
                clear hK K
                refine wpAny_ready (rs := [9]) (by kernel_rfl) (by simp) ?_
                refine AllReady.cons rfl (fun K hK => ?_) ?_
                · go_simp
                  refine hK _ _ ?_
                  clear hK K
                  refine wpAny_ready (rs := [10]) (by kernel_rfl) (by simp) ?_
                  refine AllReady.cons rfl (fun K hK => ?_) ?_
                  · refine step_appP rfl _ _ (by rfl) (w.heap.size + 3) v rows acc ⟨w2.heap.size, 0, none⟩ 1 (.slice va2 l.length vc2) l rfl rfl (HGo.out _ (tr3 hb3 (by go_grown))).own (by go_simp) (OR.mono (ho2.out.below (by go_grown)) (by omega)) rfl (by omega) (HGo.out _ (tr3 hb3 (by go_grown))).lt ?_
                    intro v3 w3 ho3 hg3
                    obtain ⟨va3, vc3, rfl, _⟩ := ho3.pm.form
                    have hA := (HGo.out _ (tr3 hb3 (by go_grown))).app hg3 ho3
                    have hlen : (acc ++ [l]).length = acc.length + 1 := by simp
                    rw [hlen] at hA
                    obtain ⟨n0, n1, n2, n3⟩ := cel2 hA.2.2.1
                    have n1' : w3.cell? ⟨w.heap.size + 1 + 1, 1, none⟩ = some v := n1
                    have n3' : w3.frozen? ⟨w.heap.size + 1 + 1, 1, none⟩ = false := n3
                    refine hK _ _ ?_
                    clear hK K
                    refine wpAny_take (i := 11) (v := ?_) rfl (by kernel_rfl) (by kernel_rfl) (by kernel_rfl) (fun _ _ _ h => h) (Or.inl ⟨by rfl, ?_⟩) ?_
                    rotate_left
                    · intro w9; go_simp; try with_reducible rfl
                    refine wpAny_ready (rs := [12]) (by kernel_rfl) (by simp) ?_
                    refine AllReady.cons rfl (fun K hK => ?_) ?_
                    · go_simp
                      refine hK _ _ ?_
                      clear hK K
                      refine wpAny_done (by kernel_rfl) ?_ _
                      have HA := Lib.hid hA.1
                      rw [← HTK.out] at HA
                      clear hA hw2
                      go_wp2_with fail
                      go_roundw
                      case rel => exact ⟨k + 1, _, _, by go_num, by omega, HA⟩
                      case measure => simp [intOf]; omega
                    exact AllReady.nil
                  exact AllReady.nil
                exact AllReady.nil
              exact AllReady.nil
            exact AllReady.nil
          exact AllReady.nil
        refine AllReady.cons rfl (fun K hK => ?_) ?_
        · go_simp
          refine hK _ _ ?_
          clear hK K
          refine wpAny_ready (rs := [1, 7]) (by kernel_rfl) (by simp) ?_
          refine AllReady.cons rfl (fun K hK => ?_) ?_
          · go_simp
            refine hK _ _ ?_
            clear hK K
            refine wpAny_ready (rs := [7]) (by kernel_rfl) (by simp) ?_
            refine AllReady.cons rfl (fun K hK => ?_) ?_
            · go_simp
              refine hK _ _ ?_
              clear hK K
              refine wpAny_ready (rs := [8]) (by kernel_rfl) (by simp) ?_
              refine AllReady.cons rfl (fun K hK => ?_) ?_
              · refine step_copyR rfl _ _ 39 35 _ 32 (by rfl) Tryz.underlying39 infoI rfl (by decide) recI wr.heap.size wr.heap.size l (.slice ai l.length ci) rfl (heap_new wr #[] 35) (Nat.le_refl _) rfl (HRV.out _ (by go_grown)) (by omega) ?_
                intro v2 w2 ho2 hb2
                obtain ⟨va2, vc2, rfl⟩ := ho2.out.form
                have hb3 : Below wr.heap.size wr w2 := Below.trans (by go_grown) hb2
                obtain ⟨u1, u2, u3⟩ := hw2 w2 hb3
                obtain ⟨u4, u5, u6⟩ := hw2 (w2.alloc (.cells #[.slice va2 l.length vc2] 39)) (tr3 hb3 (by go_grown))
                refine hK _ _ ?_
                clear hK K
                refine wpAny_ready (rs := [9]) (by kernel_rfl) (by simp) ?_
                refine AllReady.cons rfl (fun K hK => ?_) ?_
                · go_simp
                  refine hK _ _ ?_
                  clear hK K
                  refine wpAny_ready (rs := [10]) (by kernel_rfl) (by simp) ?_
                  refine AllReady.cons rfl (fun K hK => ?_) ?_
                  · refine step_appP rfl _ _ (by rfl) (w.heap.size + 3) v rows acc ⟨w2.heap.size, 0, none⟩ 1 (.slice va2 l.length vc2) l rfl rfl (HGo.out _ (tr3 hb3 (by go_grown))).own (by go_simp) (OR.mono (ho2.out.below (by go_grown)) (by omega)) rfl (by omega) (HGo.out _ (tr3 hb3 (by go_grown))).lt ?_
                    intro v3 w3 ho3 hg3
                    obtain ⟨va3, vc3, rfl, _⟩ := ho3.pm.form
                    have hA := (HGo.out _ (tr3 hb3 (by go_grown))).app hg3 ho3
                    have hlen : (acc ++ [l]).length = acc.length + 1 := by simp
                    rw [hlen] at hA
                    obtain ⟨n0, n1, n2, n3⟩ := cel2 hA.2.2.1
                    have n1' : w3.cell? ⟨w.heap.size + 1 + 1, 1, none⟩ = some v := n1
                    have n3' : w3.frozen? ⟨w.heap.size + 1 + 1, 1, none⟩ = false := n3
                    refine hK _ _ ?_
                    clear hK K
                    refine wpAny_take (i := 11) (v := ?_) rfl (by kernel_rfl) (by kernel_rfl) (by kernel_rfl) (fun _ _ _ h => h) (Or.inl ⟨by rfl, ?_⟩) ?_
                    rotate_left
                    · intro w9; go_simp; try with_reducible rfl
                    refine wpAny_ready (rs := [12]) (by kernel_rfl) (by simp) ?_
                    refine AllReady.cons rfl (fun K hK => ?_) ?_
                    · go_simp
                      refine hK _ _ ?_
                      clear hK K
                      refine wpAny_done (by kernel_rfl) ?_ _
                      have HA := Lib.hid hA.1
                      rw [← HTK.out] at HA
                      clear hA hw2
                      go_wp2_with fail
                      go_roundw
                      case rel => exact ⟨k + 1, _, _, by go_num, by omega, HA⟩
                      case measure => simp [intOf]; omega
                    exact AllReady.nil
                  exact AllReady.nil
                exact AllReady.nil
              exact AllReady.nil
            exact AllReady.nil
          refine AllReady.cons rfl (fun K hK => ?_) ?_
          · go_simp
            refine hK _ _ ?_
            clear hK K
            refine wpAny_ready (rs := [1, 8]) (by kernel_rfl) (by simp) ?_
            refine AllReady.cons rfl (fun K hK => ?_) ?_
            · go_simp
              refine hK _ _ ?_
              clear hK K
              refine wpAny_ready (rs := [8]) (by kernel_rfl) (by simp) ?_
              refine AllReady.cons rfl (fun K hK => ?_) ?_
              · refine step_copyR rfl _ _ 39 35 _ 32 (by rfl) Tryz.underlying39 infoI rfl (by decide) recI wr.heap.size wr.heap.size l (.slice ai l.length ci) rfl (heap_new wr #[] 35) (Nat.le_refl _) rfl (HRV.out _ (by go_grown)) (by omega) ?_
                intro v2 w2 ho2 hb2
                obtain ⟨va2, vc2, rfl⟩ := ho2.out.form
                have hb3 : Below wr.heap.size wr w2 := Below.trans (by go_grown) hb2
                obtain ⟨u1, u2, u3⟩ := hw2 w2 hb3
                obtain ⟨u4, u5, u6⟩ := hw2 (w2.alloc (.cells #[.slice va2 l.length vc2] 39)) (tr3 hb3 (by go_grown))
                refine hK _ _ ?_
                clear hK K
                refine wpAny_ready (rs := [9]) (by kernel_rfl) (by simp) ?_
                refine AllReady.cons rfl (fun K hK => ?_) ?_
                · go_simp
                  refine hK _ _ ?_
                  clear hK K
                  refine wpAny_ready (rs := [10]) (by kernel_rfl) (by simp) ?_
                  refine AllReady.cons rfl (fun K hK => ?_) ?_
                  · refine step_appP rfl _ _ (by rfl) (w.heap.size + 3) v rows acc ⟨w2.heap.size, 0, none⟩ 1 (.slice va2 l.length vc2) l rfl rfl (HGo.out _ (tr3 hb3 (by go_grown))).own (by go_simp) (OR.mono (ho2.out.below (by go_grown)) (by omega)) rfl (by omega) (HGo.out _ (tr3 hb3 (by go_grown))).lt ?_
                    intro v3 w3 ho3 hg3
                    obtain ⟨va3, vc3, rfl, _⟩ := ho3.pm.form
                    have hA := (HGo.out _ (tr3 hb3 (by go_grown))).app hg3 ho3
                    have hlen : (acc ++ [l]).length = acc.length + 1 := by simp
                    rw [hlen] at hA
                    obtain ⟨n0, n1, n2, n3⟩ := cel2 hA.2.2.1
                    have n1' : w3.cell? ⟨w.heap.size + 1 + 1, 1, none⟩ = some v := n1
                    have n3' : w3.frozen? ⟨w.heap.size + 1 + 1, 1, none⟩ = false := n3
                    refine hK _ _ ?_
                    clear hK K
                    refine wpAny_take (i := 11) (v := ?_) rfl (by kernel_rfl) (by kernel_rfl) (by kernel_rfl) (fun _ _ _ h => h) (Or.inl ⟨by rfl, ?_⟩) ?_
                    rotate_left
                    · intro w9; go_simp; try with_reducible rfl
                    refine wpAny_ready (rs := [12]) (by kernel_rfl) (by simp) ?_
                    refine AllReady.cons rfl (fun K hK => ?_) ?_
                    · go_simp
                      refine hK _ _ ?_
                      clear hK K
                      refine wpAny_done (by kernel_rfl) ?_ _
                      have HA := Lib.hid hA.1
                      rw [← HTK.out] at HA
                      clear hA hw2
                      go_wp2_with fail
                      go_roundw
                      case rel => exact ⟨k + 1, _, _, by go_num, by omega, HA⟩
                      case measure => simp [intOf]; omega
                    exact AllReady.nil
                  exact AllReady.nil
                exact AllReady.nil
              exact AllReady.nil
            refine AllReady.cons rfl (fun K hK => ?_) ?_
            · refine step_copyR rfl _ _ 39 35 _ 32 (by rfl) Tryz.underlying39 infoI rfl (by decide) recI wr.heap.size wr.heap.size l (.slice ai l.length ci) rfl (heap_new wr #[] 35) (Nat.le_refl _) rfl (HRV.out _ (by go_grown)) (by omega) ?_
              intro v2 w2 ho2 hb2
              obtain ⟨va2, vc2, rfl⟩ := ho2.out.form
              have hb3 : Below wr.heap.size wr w2 := Below.trans (by go_grown) hb2
              obtain ⟨u1, u2, u3⟩ := hw2 w2 hb3
              obtain ⟨u4, u5, u6⟩ := hw2 (w2.alloc (.cells #[.slice va2 l.length vc2] 39)) (tr3 hb3 (by go_grown))
              refine hK _ _ ?_
              clear hK K
              refine wpAny_ready (rs := [1, 9]) (by kernel_rfl) (by simp) ?_
              refine AllReady.cons rfl (fun K hK => ?_) ?_
              · go_simp
                refine hK _ _ ?_
                clear hK K
                refine wpAny_ready (rs := [9]) (by kernel_rfl) (by simp) ?_
                refine AllReady.cons rfl (fun K hK => ?_) ?_
                · go_simp
                  refine hK _ _ ?_
                  clear hK K
                  refine wpAny_ready (rs := [10]) (by kernel_rfl) (by simp) ?_
                  refine AllReady.cons rfl (fun K hK => ?_) ?_
                  · refine step_appP rfl _ _ (by rfl) (w.heap.size + 3) v rows acc ⟨w2.heap.size, 0, none⟩ 1 (.slice va2 l.length vc2) l rfl rfl (HGo.out _ (tr3 hb3 (by go_grown))).own (by go_simp) (OR.mono (ho2.out.below (by go_grown)) (by omega)) rfl (by omega) (HGo.out _ (tr3 hb3 (by go_grown))).lt ?_
                    intro v3 w3 ho3 hg3
                    obtain ⟨va3, vc3, rfl, _⟩ := ho3.pm.form
                    have hA := (HGo.out _ (tr3 hb3 (by go_grown))).app hg3 ho3
                    have hlen : (acc ++ [l]).length = acc.length + 1 := by simp
                    rw [hlen] at hA
                    obtain ⟨n0, n1, n2, n3⟩ := cel2 hA.2.2.1
                    have n1' : w3.cell? ⟨w.heap.size + 1 + 1, 1, none⟩ = some v := n1
                    have n3' : w3.frozen? ⟨w.heap.size + 1 + 1, 1, none⟩ = false := n3
                    refine hK _ _ ?_
                    clear hK K
                    refine wpAny_take (i := 11) (v := ?_) rfl (by kernel_rfl) (by kernel_rfl) (by kernel_rfl) (fun _ _ _ h => h) (Or.inl ⟨by rfl, ?_⟩) ?_
                    rotate_left
                    · intro w9; go_simp; try with_reducible rfl
                    refine wpAny_ready (rs := [12]) (by kernel_rfl) (by simp) ?_
                    refine AllReady.cons rfl (fun K hK => ?_) ?_
                    · go_simp
                      refine hK _ _ ?_
                      clear hK K
                      refine wpAny_done (by kernel_rfl) ?_ _
                      have HA := Lib.hid hA.1
                      rw [← HTK.out] at HA
                      clear hA hw2
                      go_wp2_with fail
                      go_roundw
                      case rel => exact ⟨k + 1, _, _, by go_num, by omega, HA⟩
                      case measure => simp [intOf]; omega
                    exact AllReady.nil
                  exact AllReady.nil
                exact AllReady.nil
              refine AllReady.cons rfl (fun K hK => ?_) ?_
              · go_simp
                refine hK _ _ ?_
                clear hK K
                refine wpAny_ready (rs := [1]) (by kernel_rfl) (by simp) ?_
                refine AllReady.cons rfl (fun K hK => ?_) ?_
                · go_simp
                  refine hK _ _ ?_
                  clear hK K
                  refine wpAny_ready (rs := [10]) (by kernel_rfl) (by simp) ?_
                  refine AllReady.cons rfl (fun K hK => ?_) ?_
                  · refine step_appP rfl _ _ (by rfl) (w.heap.size + 3) v rows acc ⟨w2.heap.size, 0, none⟩ 1 (.slice va2 l.length vc2) l rfl rfl (HGo.out _ (tr3 hb3 (by go_grown))).own (by go_simp) (OR.mono (ho2.out.below (by go_grown)) (by omega)) rfl (by omega) (HGo.out _ (tr3 hb3 (by go_grown))).lt ?_
                    intro v3 w3 ho3 hg3
                    obtain ⟨va3, vc3, rfl, _⟩ := ho3.pm.form
                    have hA := (HGo.out _ (tr3 hb3 (by go_grown))).app hg3 ho3
                    have hlen : (acc ++ [l]).length = acc.length + 1 := by simp
                    rw [hlen] at hA
                    obtain ⟨n0, n1, n2, n3⟩ := cel2 hA.2.2.1
                    have n1' : w3.cell? ⟨w.heap.size + 1 + 1, 1, none⟩ = some v := n1
                    have n3' : w3.frozen? ⟨w.heap.size + 1 + 1, 1, none⟩ = false := n3
                    refine hK _ _ ?_
                    clear hK K
                    refine wpAny_take (i := 11) (v := ?_) rfl (by kernel_rfl) (by kernel_rfl) (by kernel_rfl) (fun _ _ _ h => h) (Or.inl ⟨by rfl, ?_⟩) ?_
                    rotate_left
                    · intro w9; go_simp; try with_reducible rfl
                    refine wpAny_ready (rs := [12]) (by kernel_rfl) (by simp) ?_
                    refine AllReady.cons rfl (fun K hK => ?_) ?_
                    · go_simp
                      refine hK _ _ ?_
                      clear hK K
                      refine wpAny_done (by kernel_rfl) ?_ _
                      have HA := Lib.hid hA.1
                      rw [← HTK.out] at HA
                      clear hA hw2
                      go_wp2_with fail
                      go_roundw
                      case rel => exact ⟨k + 1, _, _, by go_num, by omega, HA⟩
                      case measure => simp [intOf]; omega
                    exact AllReady.nil
                  exact AllReady.nil
                exact AllReady.nil
              exact AllReady.nil
            exact AllReady.nil
          exact AllReady.nil
        refine AllReady.cons rfl (fun K hK => ?_) ?_
        · go_simp
          refine hK _ _ ?_
          clear hK K
          refine wpAny_ready (rs := [1, 2]) (by kernel_rfl) (by simp) ?_
          refine AllReady.cons rfl (fun K hK => ?_) ?_
          · go_simp
            refine hK _ _ ?_
            clear hK K
            refine wpAny_ready (rs := [2]) (by kernel_rfl) (by simp) ?_
            refine AllReady.cons rfl (fun K hK => ?_) ?_
            · go_simp
              refine hK _ _ ?_
              clear hK K
              refine wpAny_ready (rs := [8]) (by kernel_rfl) (by simp) ?_
              refine AllReady.cons rfl (fun K hK => ?_) ?_
              · refine step_copyR rfl _ _ 39 35 _ 32 (by rfl) Tryz.underlying39 infoI rfl (by decide) recI wr.heap.size wr.heap.size l (.slice ai l.length ci) rfl (heap_new wr #[] 35) (Nat.le_refl _) rfl (HRV.out _ (by go_grown)) (by omega) ?_
                intro v2 w2 ho2 hb2
                obtain ⟨va2, vc2, rfl⟩ := ho2.out.form
                have hb3 : Below wr.heap.size wr w2 := Below.trans (by go_grown) hb2
                obtain ⟨u1, u2, u3⟩ := hw2 w2 hb3
                obtain ⟨u4, u5, u6⟩ := hw2 (w2.alloc (.cells #[.slice va2 l.length vc2] 39)) (tr3 hb3 (by go_grown))
                refine hK _ _ ?_
                clear hK K
                refine wpAny_ready (rs := [9]) (by kernel_rfl) (by simp) ?_
                refine AllReady.cons rfl (fun K hK => ?_) ?_
                · go_simp
                  refine hK _ _ ?_
                  clear hK K
                  refine wpAny_ready (rs := [10]) (by kernel_rfl) (by simp) ?_
                  refine AllReady.cons rfl (fun K hK => ?_) ?_
                  · refine step_appP rfl _ _ (by rfl) (w.heap.size + 3) v rows acc ⟨w2.heap.size, 0, none⟩ 1 (.slice va2 l.length vc2) l rfl rfl (HGo.out _ (tr3 hb3 (by go_grown))).own (by go_simp) (OR.mono (ho2.out.below (by go_grown)) (by omega)) rfl (by omega) (HGo.out _ (tr3 hb3 (by go_grown))).lt ?_
                    intro v3 w3 ho3 hg3
                    obtain ⟨va3, vc3, rfl, _⟩ := ho3.pm.form
                    have hA := (HGo.out _ (tr3 hb3 (by go_grown))).app hg3 ho3
                    have hlen : (acc ++ [l]).length = acc.length + 1 := by simp
                    rw [hlen] at hA
                    obtain ⟨n0, n1, n2, n3⟩ := cel2 hA.2.2.1
                    have n1' : w3.cell? ⟨w.heap.size + 1 + 1, 1, none⟩ = some v := n1
                    have n3' : w3.frozen? ⟨w.heap.size + 1 + 1, 1, none⟩ = false := n3
                    refine hK _ _ ?_
                    clear hK K
                    refine wpAny_take (i := 11) (v := ?_) rfl (by kernel_rfl) (by kernel_rfl) (by kernel_rfl) (fun _ _ _ h => h) (Or.inl ⟨by rfl, ?_⟩) ?_
                    rotate_left
                    · intro w9; go_simp; try with_reducible rfl
                    refine wpAny_ready (rs := [12]) (by kernel_rfl) (by simp) ?_
                    refine AllReady.cons rfl (fun K hK => ?_) ?_
                    · go_simp
                      refine hK _ _ ?_
                      clear hK K
                      refine wpAny_done (by kernel_rfl) ?_ _
                      have HA := Lib.hid hA.1
                      rw [← HTK.out] at HA
                      clear hA hw2
                      go_wp2_with fail
                      go_roundw
                      case rel => exact ⟨k + 1, _, _, by go_num, by omega, HA⟩
                      case measure => simp [intOf]; omega
                    exact AllReady.nil
                  exact AllReady.nil
                exact AllReady.nil
              exact AllReady.nil
            exact AllReady.nil
          refine AllReady.cons rfl (fun K hK => ?_) ?_
          · go_simp
            refine hK _ _ ?_
            clear hK K
            refine wpAny_ready (rs := [1, 8]) (by kernel_rfl) (by simp) ?_
            refine AllReady.cons rfl (fun K hK => ?_) ?_
            · go_simp
              refine hK _ _ ?_
              clear hK K
              refine wpAny_ready (rs := [8]) (by kernel_rfl) (by simp) ?_
              refine AllReady.cons rfl (fun K hK => ?_) ?_
              · refine step_copyR rfl _ _ 39 35 _ 32 (by rfl) Tryz.underlying39 infoI rfl (by decide) recI wr.heap.size wr.heap.size l (.slice ai l.length ci) rfl (heap_new wr #[] 35) (Nat.le_refl _) rfl (HRV.out _ (by go_grown)) (by omega) ?_
                intro v2 w2 ho2 hb2
                obtain ⟨va2, vc2, rfl⟩ := ho2.out.form
                have hb3 : Below wr.heap.size wr w2 := Below.trans (by go_grown) hb2
                obtain ⟨u1, u2, u3⟩ := hw2 w2 hb3
                obtain ⟨u4, u5, u6⟩ := hw2 (w2.alloc (.cells #[.slice va2 l.length vc2] 39)) (tr3 hb3 (by go_grown))
                refine hK _ _ ?_
                clear hK K
                refine wpAny_ready (rs := [9]) (by kernel_rfl) (by simp) ?_
                refine AllReady.cons rfl (fun K hK => ?_) ?_
                · go_simp
                  refine hK _ _ ?_
                  clear hK K
                  refine wpAny_ready (rs := [10]) (by kernel_rfl) (by simp) ?_
                  refine AllReady.cons rfl (fun K hK => ?_) ?_
                  · refine step_appP rfl _ _ (by rfl) (w.heap.size + 3) v rows acc ⟨w2.heap.size, 0, none⟩ 1 (.slice va2 l.length vc2) l rfl rfl (HGo.out _ (tr3 hb3 (by go_grown))).own (by go_simp) (OR.mono (ho2.out.below (by go_grown)) (by omega)) rfl (by omega) (HGo.out _ (tr3 hb3 (by go_grown))).lt ?_
                    intro v3 w3 ho3 hg3
                    obtain ⟨va3, vc3, rfl, _⟩ := ho3.pm.form
                    have hA := (HGo.out _ (tr3 hb3 (by go_grown))).app hg3 ho3
                    have hlen : (acc ++ [l]).length = acc.length + 1 := by simp
                    rw [hlen] at hA
                    obtain ⟨n0, n1, n2, n3⟩ := cel2 hA.2.2.1
                    have n1' : w3.cell? ⟨w.heap.size + 1 + 1, 1, none⟩ = some v := n1
                    have n3' : w3.frozen? ⟨w.heap.size + 1 + 1, 1, none⟩ = false := n3
                    refine hK _ _ ?_
                    clear hK K
                    refine wpAny_take (i := 11) (v := ?_) rfl (by kernel_rfl) (by kernel_rfl) (by kernel_rfl) (fun _ _ _ h => h) (Or.inl ⟨by rfl, ?_⟩) ?_
                    rotate_left
                    · intro w9; go_simp; try with_reducible rfl
                    refine wpAny_ready (rs := [12]) (by kernel_rfl) (by simp) ?_
                    refine AllReady.cons rfl (fun K hK => ?_) ?_
                    · go_simp
                      refine hK _ _ ?_
                      clear hK K
                      refine wpAny_done (by kernel_rfl) ?_ _
                      have HA := Lib.hid hA.1
                      rw [← HTK.out] at HA
                      clear hA hw2
                      go_wp2_with fail
                      go_roundw
                      case rel => exact ⟨k + 1, _, _, by go_num, by omega, HA⟩
                      case measure => simp [intOf]; omega
                    exact AllReady.nil
                  exact AllReady.nil
                exact AllReady.nil
              exact AllReady.nil
            refine AllReady.cons rfl (fun K hK => ?_) ?_
            · refine step_copyR rfl _ _ 39 35 _ 32 (by rfl) Tryz.underlying39 infoI rfl (by decide) recI wr.heap.size wr.heap.size l (.slice ai l.length ci) rfl (heap_new wr #[] 35) (Nat.le_refl _) rfl (HRV.out _ (by go_grown)) (by omega) ?_
              intro v2 w2 ho2 hb2
              obtain ⟨va2, vc2, rfl⟩ := ho2.out.form
              have hb3 : Below wr.heap.size wr w2 := Below.trans (by go_grown) hb2
              obtain ⟨u1, u2, u3⟩ := hw2 w2 hb3
              obtain ⟨u4, u5, u6⟩ := hw2 (w2.alloc (.cells #[.slice va2 l.length vc2] 39)) (tr3 hb3 (by go_grown))
              refine hK _ _ ?_
              clear hK K
              refine wpAny_ready (rs := [1, 9]) (by kernel_rfl) (by simp) ?_
              refine AllReady.cons rfl (fun K hK => ?_) ?_
              · go_simp
                refine hK _ _ ?_
                clear hK K
                refine wpAny_ready (rs := [9]) (by kernel_rfl) (by simp) ?_
                refine AllReady.cons rfl (fun K hK => ?_) ?_
                · go_simp
                  refine hK _ _ ?_
                  clear hK K
                  refine wpAny_ready (rs := [10]) (by kernel_rfl) (by simp) ?_
                  refine AllReady.cons rfl (fun K hK => ?_) ?_
                  · refine step_appP rfl _ _ (by rfl) (w.heap.size + 3) v rows acc ⟨w2.heap.size, 0, none⟩ 1 (.slice va2 l.length vc2) l rfl rfl (HGo.out _ (tr3 hb3 (by go_grown))).own (by go_simp) (OR.mono (ho2.out.below (by go_grown)) (by omega)) rfl (by omega) (HGo.out _ (tr3 hb3 (by go_grown))).lt ?_
                    intro v3 w3 ho3 hg3
                    obtain ⟨va3, vc3, rfl, _⟩ := ho3.pm.form
                    have hA := (HGo.out _ (tr3 hb3 (by go_grown))).app hg3 ho3
                    have hlen : (acc ++ [l]).length = acc.length + 1 := by simp
                    rw [hlen] at hA
                    obtain ⟨n0, n1, n2, n3⟩ := cel2 hA.2.2.1
                    have n1' : w3.cell? ⟨w.heap.size + 1 + 1, 1, none⟩ = some v := n1
                    have n3' : w3.frozen? ⟨w.heap.size + 1 + 1, 1, none⟩ = false := n3
                    refine hK _ _ ?_
                    clear hK K
                    refine wpAny_take (i := 11) (v := ?_) rfl (by kernel_rfl) (by kernel_rfl) (by kernel_rfl) (fun _ _ _ h => h) (Or.inl ⟨by rfl, ?_⟩) ?_
                    rotate_left
                    · intro w9; go_simp; try with_reducible rfl
                    refine wpAny_ready (rs := [12]) (by kernel_rfl) (by simp) ?_
                    refine AllReady.cons rfl (fun K hK => ?_) ?_
                    · go_simp
                      refine hK _ _ ?_
                      clear hK K
                      refine wpAny_done (by kernel_rfl) ?_ _
                      have HA := Lib.hid hA.1
                      rw [← HTK.out] at HA
                      clear hA hw2
                      go_wp2_with fail
                      go_roundw
                      case rel => exact ⟨k + 1, _, _, by go_num, by omega, HA⟩
                      case measure => simp [intOf]; omega
                    exact AllReady.nil
                  exact AllReady.nil
                exact AllReady.nil
              refine AllReady.cons rfl (fun K hK => ?_) ?_
              · go_simp
                refine hK _ _ ?_
                clear hK K
                refine wpAny_ready (rs := [1]) (by kernel_rfl) (by simp) ?_
                refine AllReady.cons rfl (fun K hK => ?_) ?_
                · go_simp
                  refine hK _ _ ?_
                  clear hK K
                  refine wpAny_ready (rs := [10]) (by kernel_rfl) (by simp) ?_
                  refine AllReady.cons rfl (fun K hK => ?_) ?_
                  · refine step_appP rfl _ _ (by rfl) (w.heap.size + 3) v rows acc ⟨w2.heap.size, 0, none⟩ 1 (.slice va2 l.length vc2) l rfl rfl (HGo.out _ (tr3 hb3 (by go_grown))).own (by go_simp) (OR.mono (ho2.out.below (by go_grown)) (by omega)) rfl (by omega) (HGo.out _ (tr3 hb3 (by go_grown))).lt ?_
                    intro v3 w3 ho3 hg3
                    obtain ⟨va3, vc3, rfl, _⟩ := ho3.pm.form
                    have hA := (HGo.out _ (tr3 hb3 (by go_grown))).app hg3 ho3
                    have hlen : (acc ++ [l]).length = acc.length + 1 := by simp
                    rw [hlen] at hA
                    obtain ⟨n0, n1, n2, n3⟩ := cel2 hA.2.2.1
                    have n1' : w3.cell? ⟨w.heap.size + 1 + 1, 1, none⟩ = some v := n1
                    have n3' : w3.frozen? ⟨w.heap.size + 1 + 1, 1, none⟩ = false := n3
                    refine hK _ _ ?_
                    clear hK K
                    refine wpAny_take (i := 11) (v := ?_) rfl (by kernel_rfl) (by kernel_rfl) (by kernel_rfl) (fun _ _ _ h => h) (Or.inl ⟨by rfl, ?_⟩) ?_
                    rotate_left
                    · intro w9; go_simp; try with_reducible rfl
                    refine wpAny_ready (rs := [12]) (by kernel_rfl) (by simp) ?_
                    refine AllReady.cons rfl (fun K hK => ?_) ?_
                    · go_simp
                      refine hK _ _ ?_
                      clear hK K
                      refine wpAny_done (by kernel_rfl) ?_ _
                      have HA := Lib.hid hA.1
                      rw [← HTK.out] at HA
                      clear hA hw2
                      go_wp2_with fail
                      go_roundw
                      case rel => exact ⟨k + 1, _, _, by go_num, by omega, HA⟩
                      case measure => simp [intOf]; omega
                    exact AllReady.nil
                  exact AllReady.nil
                exact AllReady.nil
              exact AllReady.nil
            exact AllReady.nil
          exact AllReady.nil
        exact AllReady.nil
      exact AllReady.nil
    · obtain rfl : k = n := by omega
      have HTK : L.take k = L := by rw [HNL.out, List.take_length]
      rw [HTK] at HO1
      obtain ⟨va, vc, rfl, _⟩ := HO1.out.own.pm.form
      obtain ⟨c0, c1, f0, f1⟩ := cel2 HO1.out.r1
      obtain ⟨g0, g1, _, _⟩ := cel2 HO1.out.r2
      have g0' : wr.cell? ⟨w.heap.size + 1 + 1, 0, none⟩ = some (.int .i64 m) := g0
      have g1' : wr.cell? ⟨w.heap.size + 1 + 1, 1, none⟩ = some (.slice va L.length vc) := g1
      go_wp2_with fail
      have hB : Below w.heap.size w (st2 wr (w.heap.size + 1) (.int .i64 m) (.slice va L.length vc)) := st2_below HO1.out.bel (by omega) _ _
      have hP : OP (st2 wr (w.heap.size + 1) (.int .i64 m) (.slice va L.length vc)) (w.heap.size + 3) (.slice va L.length vc) rows L := HO1.out.own.keep fun k hk => st2_oth _ _ _ _ _ (by omega)
      exact bodyPost_ret (res_p1 Tryz.results7 rfl (st2_blk (a' := .int .i64 m) (b' := .slice va L.length vc) HO1.out.r1)) rfl ⟨_, rows, rfl, hP, hB⟩
end Go.Proofs.YtgkfnplgldigbaaGreatDoor.pr
