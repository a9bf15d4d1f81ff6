/- The loops of which there are events, each once, in order (layer 24). -/
import Derived.Test.YtokkgfefiblmiaaLgD
import Derived.Maps.OwnIn
import Derived.Maps.AppendAt
import Derived.Carry
namespace Go.Proofs.Ytokkgfefiblmiaa.lg
open Go.ChangeShapes Go.WideShapes Go.ChangeAt Go.RowKit Go.Maps
open Go.Proofs.Ytokkgfefiblmiaa.ro Go.Shelf
set_option linter.unusedVariables false
set_option linter.unusedSimpArgs false
attribute [local go_sem] Oper.semAt_some
def dst (acc : List Int) (x : Int) : List Int := if acc.contains x then acc else acc ++ [x]
def dds (xs : List Int) : List Int := xs.foldl dst []
theorem dds_snoc (xs : List Int) (x : Int) : dds (xs ++ [x]) = dst (dds xs) x := by simp [dds, List.foldl_append]
theorem dst_le (acc : List Int) (x : Int) : (dst acc x).length ≤ acc.length + 1 := by unfold dst; split <;> simp
theorem fold_le (xs : List Int) : ∀ acc : List Int, (xs.foldl dst acc).length ≤ acc.length + xs.length := by
  induction xs with
  | nil => intro acc; simp
  | cons x l ih => intro acc; rw [List.foldl_cons, List.length_cons]; have := ih (dst acc x); have := dst_le acc x; omega
theorem dds_le (xs : List Int) : (dds xs).length ≤ xs.length := by have := fold_le xs []; simpa [dds] using this
theorem tel_q1 (es : List I4) : ∀ k, k ≤ es.length → (tel q1 es k).map (fun x => x.2.2.1) = (es.take k).map fun x => x.2.1 := by
  intro k
  induction k with
  | zero => intro _; simp [tel]
  | succ k ih =>
    intro hk
    have hlt : k < es.length := by omega
    rw [tel_s, if_pos (show q1 _ = true from rfl), List.map_append, ih (by omega), List.take_succ_eq_append_getElem hlt, List.map_append, List.map_cons, List.map_nil, List.map_cons, List.map_nil, List.getD_eq_getElem?_getD, List.getElem?_eq_getElem hlt]
    rfl
def lset (L : List Int) : DataW Unit := setOf (.agg []) (L.map (Lit.int .i64))
theorem lset_snoc (L : List Int) (x : Int) : lset (L ++ [x]) = (lset L).put (.int .i64 x) (.agg []) := by
  unfold lset
  rw [List.map_append, List.map_cons, List.map_nil, setOf_snoc]
theorem any_i (x : Int) : ∀ l : List Int, l.any ((fun y : Lit => y.sameKey (.int .i64 x)) ∘ Lit.int .i64) = l.contains x
  | [] => rfl
  | a :: r => by
    rw [List.any_cons, List.contains_cons, any_i x r]
    congr 1
    show decide (IntKind.i64 = IntKind.i64 ∧ a = x) = (x == a)
    by_cases e : a = x
    · subst e
      simp
    · have e' : ¬ x = a := fun h => e h.symm
      simp [e, e']
theorem has_lset (L : List Int) (x : Int) : Maps.has (lset L) (.int .i64 x) = L.contains x := by
  unfold lset
  rw [has_setOf _ _ _ (fun y hy => by obtain ⟨_, _, rfl⟩ := List.mem_map.1 hy; trivial), List.any_map]
  exact any_i x _
theorem lawI : Keyed Try.prog 3 := int_keyed Try.underlying3
theorem zeroU (w : World) : (zeroValue 55).run Try.prog w = .ok (.agg #[]) w := by kernel_rfl
theorem infoI : (Try.prog.info? 3).map (fun i => (i.zero, i.size, i.bytes)) = some (some (.int .i64 0), 1, 8) := by kernel_rfl
/-- The loops of those that were told. -/
def lps (pre : List EvW) : List Int := dds ((evs pre).map fun x => x.2.2.1)
theorem lps_snoc (pre : List EvW) (x : EvW) : lps (pre ++ [x]) = dst (lps pre) x.1.2.2.1 := by
  unfold lps
  rw [evs_snoc, List.map_append, List.map_cons, List.map_nil, dds_snoc]
theorem lps_le (pre : List EvW) : (lps pre).length ≤ pre.length := by
  have := dds_le ((evs pre).map fun x => x.2.2.1)
  rwa [List.length_map, evs, List.length_map] at this
structure LI (w0 : World) (pre : List EvW) (W : World) : Prop where
  v : ∃ v, W.heap[w0.heap.size]? = some (.cells #[v] 29 (0, 0)) ∧ W.ownsRow (w0.heap.size + 5) 3 1 v (lps pre).length ((lps pre).map (Value.int .i64))
  m : W.heap[w0.heap.size + 2]? = some (.cells #[.map (some (w0.heap.size + 1))] 51 (0, 0))
  s : W.ownsMap Try.prog 3 (unitElem (H := Unit)) (w0.heap.size + 1) pre.length (lset (lps pre))
  b : Below w0.heap.size w0 W
  z : w0.heap.size + 5 ≤ W.heap.size
theorem own_lt {W : World} {base : Nat} {e size : Nat} {v : Value} {k : Nat} {xs : List Value} (h : W.ownsRow base e size v k xs) : ∀ g, v.ownBlock = some g → base ≤ g ∧ g < W.heap.size := by
  intro g hg
  obtain ⟨_, ⟨rfl, _⟩ | ⟨g2, cap2, cur2, rfl, h1, hh2, _⟩⟩ := h
  · simp [Value.ownBlock] at hg
  · simp [Value.ownBlock] at hg
    subst hg
    exact ⟨h1, lt_of hh2⟩
theorem own_form {W : World} {base : Nat} {e size : Nat} {v : Value} {k : Nat} {xs : List Value} (h : W.ownsRow base e size v k xs) : ∃ a n c, v = .slice a n c := by
  obtain ⟨_, ⟨rfl, _⟩ | ⟨g, cap, cur, rfl, _⟩⟩ := h
  · exact ⟨_, _, _, rfl⟩
  · exact ⟨_, _, _, rfl⟩
theorem own_keep {W W' : World} {base : Nat} {e size : Nat} {v : Value} {k : Nat} {xs : List Value} (h : W.ownsRow base e size v k xs) (hb : ∀ g, base ≤ g → g < W.heap.size → (∃ o : Obj, W.heap[g]? = some o ∧ o.isCells = true) → W'.heap[g]? = W.heap[g]?) : W'.ownsRow base e size v k xs := by
  obtain ⟨h0, h1 | ⟨g, cap, cur, h1, h2, hh, h3⟩⟩ := h
  · exact ⟨h0, .inl h1⟩
  · exact ⟨h0, .inr ⟨g, cap, cur, h1, h2, (hb g h2 (lt_of hh) ⟨_, hh, rfl⟩).trans hh, h3⟩⟩
theorem LI.own (w0 : World) (B : Nat) (hB : w0.heap.size + 5 ≤ B) : OwnFrom B (LI w0) := fun pre W W' row hs hg hr => by
  have hc : ∀ g, (∃ o : Obj, W.heap[g]? = some o ∧ o.isCells = true) → W'.heap[g]? = W.heap[g]? := fun g ⟨o, ho, hoc⟩ => hg.block g (lt_of ho) (fun e => by
    obtain ⟨_, o', ho', hc'⟩ := hr g e.symm
    rw [ho] at ho'
    cases ho'
    rw [hoc] at hc'
    cases hc')
  obtain ⟨v, hv, ho⟩ := hs.v
  exact ⟨⟨v, (hc _ ⟨_, hv, rfl⟩).trans hv, own_keep ho (fun g _ _ h => hc g h)⟩, (hc _ ⟨_, hs.m, rfl⟩).trans hs.m, hs.s.kept hg (fun e => by have := (hr _ e.symm).1; omega), hs.b.grown hg (by have := hs.z; omega) (fun k e => by have := (hr k e).1; omega), Nat.le_trans hs.z hg.size⟩
def Sx (n : Nat) (b : Nat) : Prop := b = n + 3 ∨ b = n + 4
theorem kpS_alloc {n : Nat} {W : World} (h : n + 5 ≤ W.heap.size) (o : Obj) : KpS n (Sx n) W (W.alloc o) :=
  ⟨(Below.refl n W).alloc (by omega) _, fun b hb => ((Below.refl _ W).alloc (Nat.le_refl _) o).block b (by rcases hb with rfl | rfl <;> omega)⟩
/-- What an event's box holds. -/
def Bx (x : I4) (B : Nat) (W : World) : Prop := W.heap[B]? = some (.cells #[.int .i64 x.1, .int .i64 x.2.1, .int .i64 x.2.2.1, .int .i64 x.2.2.2] 28 (0, 0))
set_option maxRecDepth 100000 in
set_option maxHeartbeats 2000000 in
theorem loops_in (F : Fence) (n : Nat) (h3 : F.fn 8) (h5 : F.fn 23) (h6 : F.fn 35) (hg : F.fn 24) (hro : F.round = none) (hn : 3 ≤ n) (n0 A : Nat) (v : Value) (es : List I4) (w : World) (hl : es.length ≤ 1000000)
    (hwf : ∀ x ∈ es, (Lit.int .i64 x.2.1).wf = true) (hA : LG n0 w A v es) :
    CallsIn F n Try.prog 8 #[.pointer (some ⟨A, 0, none⟩)] w fun e W' => ∃ u, e = .returned u ∧ W'.ownsRow w.heap.size 3 1 u (dds (es.map fun x => x.2.1)).length ((dds (es.map fun x => x.2.1)).map (Value.int .i64)) ∧ Below w.heap.size w W' := by
  have h1 : 1 ≤ n := by omega
  have hmm := @run_makeMap Try.prog
  refine callsIn_of_wp_marks Try.func8 rfl h3 ?_ hro
  simp only [Try.ntmps8, List.size_toArray, List.length_cons, List.length_nil, Nat.reduceAdd, Nat.reduceSub, Array.replicate_succ, Array.replicate_zero, List.push_toArray, List.append_toArray, List.nil_append, List.cons_append]
  gi_wp2_with (gi_at_call 23; refine (those_in F (n - 1) h5 hro _ _ _ _).mono ?_; rintro e w' ⟨rfl, rfl⟩)
  clear hmm
  obtain ⟨wa, hwa⟩ : ∃ wa, w.alloc (.cells #[.slice none 0 0] 29) = wa := ⟨_, rfl⟩
  obtain ⟨wb, hwb⟩ : ∃ wb, wa.alloc (.map #[] 0) = wb := ⟨_, rfl⟩
  obtain ⟨wc, hwc⟩ : ∃ wc, wb.alloc (.cells #[.map (some (w.heap.size + 1))] 51) = wc := ⟨_, rfl⟩
  obtain ⟨wd, hwd⟩ : ∃ wd, wc.alloc (.cells #[.pointer (some ⟨A, 0, none⟩)] 24) = wd := ⟨_, rfl⟩
  obtain ⟨we, hwe⟩ : ∃ we, wd.alloc (.cells #[.func (.func 24) #[] #[]] 54) = we := ⟨_, rfl⟩
  have sa : wa.heap.size = w.heap.size + 1 := by rw [← hwa]; simp
  have sb : wb.heap.size = w.heap.size + 2 := by rw [← hwb, World.size_alloc, sa]
  have sc : wc.heap.size = w.heap.size + 3 := by rw [← hwc, World.size_alloc, sb]
  have sd : wd.heap.size = w.heap.size + 4 := by rw [← hwd, World.size_alloc, sc]
  have se : we.heap.size = w.heap.size + 5 := by rw [← hwe, World.size_alloc, sd]
  have b0 : we.heap[w.heap.size]? = some (.cells #[.slice none 0 0] 29 (0, 0)) := by rw [← hwe, ← hwd, ← hwc, ← hwb, ← hwa]; exact hal _ (hal _ (hal _ (hal _ (heap_new w _))))
  have b1 : we.ownsMap Try.prog 3 (unitElem (H := Unit)) (w.heap.size + 1) 0 (.map []) := by
    rw [← hwe, ← hwd, ← hwc, ← hwb, ← sa]
    exact (((World.ownsMap_made wa _ _ _).alloc _).alloc _).alloc _
  have b2 : we.heap[w.heap.size + 2]? = some (.cells #[.map (some (w.heap.size + 1))] 51 (0, 0)) := by rw [← hwe, ← hwd, ← hwc, ← sb]; exact hal _ (hal _ (heap_new wb _))
  have b3 : we.heap[w.heap.size + 3]? = some (.cells #[.pointer (some ⟨A, 0, none⟩)] 24 (0, 0)) := by rw [← hwe, ← hwd, ← sc]; exact hal _ (heap_new wc _)
  have b4 : we.heap[w.heap.size + 4]? = some (.cells #[.func (.func 24) #[] #[]] 54 (0, 0)) := by rw [← hwe, ← sd]; exact heap_new wd _
  have hB0 : Below w.heap.size w we := by rw [← hwe, ← hwd, ← hwc, ← hwb, ← hwa]; go_grown
  rw [hwa, hwb, hwc, hwd, hwe]
  clear hwa hwb hwc hwd hwe sa sb sc sd
  have hI := LI.own w we.heap.size (by omega)
  refine wpIn_rangeFunc_ownH hro h1 (gf := 35) (lb := #[.pointer (some ⟨w.heap.size + 1 + 1 + 1, 0, none⟩), .pointer (some ⟨w.heap.size + 1 + 1 + 1 + 1, 0, none⟩)]) rfl h6 (enters_of Try.func35 (by kernel_rfl) rfl)
    (stops1_in F (n - 1) h6 hg hro (by omega) (w.heap.size + 1 + 1 + 1) (w.heap.size + 1 + 1 + 1 + 1) (w.heap.size + 3) 0 (Sx w.heap.size) (.inl rfl) (.inr rfl) (.inl rfl) n0 A v es w we hwf hl hA hB0 b3 b4 (.inr trivial)) kpS_t (fun W l o o' hl' ho hc _ => ⟨belowK_b (w := w) (Nat.le_refl _) W l o o' (by omega) ho hc (by assumption), fun b hb => World.putObj_heap_other (fun e => by rcases hb with h | h <;> omega)⟩) (Below.refl _ _) (fun _ => rfl)
    (LI w) (fun _ _ _ => False) hI (fun _ _ _ _ _ hs _ _ => hs)
    ⟨⟨_, b0, World.ownsRow_nil _ _ _ _⟩, b2, b1, hB0, by omega⟩
    (fun x a' W => ∃ B, a' = { tmps := #[.pointer (some ⟨A, 0, none⟩), undef, .slice none 0 0, .pointer (some ⟨w.heap.size, 0, none⟩), .pointer (some ⟨w.heap.size + 1 + 1, 0, none⟩), undef, .pointer (some ⟨B, 0, none⟩), undef, undef, .map (some (w.heap.size + 1)), .pointer (some ⟨A, 0, none⟩), .func (.func 35) #[] #[.pointer (some ⟨w.heap.size + 1 + 1 + 1, 0, none⟩), .pointer (some ⟨w.heap.size + 1 + 1 + 1 + 1, 0, none⟩)], .int .i64 x.1.1, .agg #[.int .i64 x.1.2.1, .int .i64 x.1.2.2.1, .int .i64 x.1.2.2.2.1, .int .i64 x.1.2.2.2.2], undef, undef, undef, undef, undef, undef, undef, undef, undef, undef, undef, undef, undef, undef, undef, undef, undef, undef, undef], defers := [] } ∧ Bx x.1.2 B W)
    ?hax ?assign ?body ?done ?stop
  case hax =>
    rintro x a' _ W W' row ⟨B, e1, e2⟩ hgr hr
    refine ⟨B, e1, (hgr.block B (lt_of e2) (fun e => ?_)).trans e2⟩
    obtain ⟨_, o, ho, hc⟩ := hr B e.symm
    rw [show W.heap[B]? = _ from e2] at ho
    cases ho
    cases hc
  case assign =>
    rintro l pre x W K hi hK
    obtain ⟨⟨i, a, b, c, d⟩, hx⟩ := x
    have hz := hi.z
    have HK := Lib.hid hK
    have HI := Lib.hid hi
    clear hK hi
    gi_wp2
    exact HK.out _ _ ((KeepsOthers.alloc W _).from _) (kpS_alloc hz _) (hI.alloc _ HI.out) ⟨W.heap.size, rfl, heap_new _ _⟩
  case body =>
    rintro l pre x a' W hll hrec hi ⟨B, rfl, hB⟩ hlen
    obtain ⟨⟨i, a, b, c, d⟩, hx⟩ := x
    have hx' : (Lit.int .i64 b).wf = true := hx
    obtain ⟨i0, hinf, hz0, hz1, hz2⟩ := info_parts infoI
    have hkey : keyOf Try.prog 3 (.int .i64 b) = some (.int .i64 b) := keyOf_int_mk Try.underlying3 hx'
    have hz := hi.z
    obtain ⟨u, hu, ho⟩ := hi.v
    have hle := lps_le pre
    have e0 := cel hB 0
    have e1 := cel hB 1
    have bB := lt_of hB
    have cm := cel0 hi.m
    have bm := lt_of hi.m
    have HI := Lib.hid hi
    have hs := hi.s
    have HSn := Lib.hid (lps_snoc pre ⟨(i, a, b, c, d), hx⟩)
    have HBL : Hid (∀ o : Obj, KeepsFrom (w.heap.size + 5) W (W.alloc o) ∧ KpS w.heap.size (Sx w.heap.size) W (W.alloc o) ∧ LI w pre (W.alloc o)) := Lib.hid fun o => ⟨(KeepsOthers.alloc W _).from _, kpS_alloc hz _, hI.alloc _ hi⟩
    cases hc : (lps pre).contains b
    · have HF : Hid (∀ w1 w3 v' (n1 n2 : Nat) (L : List Value), w1.ownsMap Try.prog 3 (unitElem (H := Unit)) (w.heap.size + 1) (pre.length + 1) ((lset (lps pre)).put (.int .i64 b) (.agg [])) → (W.alloc (.cells #[] 55)).grownBy w1 (some (w.heap.size + 1)) → w3.ownsRow (w.heap.size + 5) 3 1 v' n1 L → n1 = (lps pre).length + 1 → L = (lps pre).map (Value.int .i64) ++ [.int .i64 b] → (w1.alloc (.cells #[.int .i64 b] 3)).grownBy w3 u.ownBlock →
          w3.cell? ⟨w.heap.size, 0, none⟩ = some u ∧ w3.frozen? ⟨w.heap.size, 0, none⟩ = false ∧ Hid (KeepsFrom (w.heap.size + 5) W (w3.setCell ⟨w.heap.size, 0, none⟩ v') ∧ KpS w.heap.size (Sx w.heap.size) W (w3.setCell ⟨w.heap.size, 0, none⟩ v') ∧ LI w (pre ++ [⟨(i, a, b, c, d), hx⟩]) (w3.setCell ⟨w.heap.size, 0, none⟩ v'))) := Lib.hid fun w1 w3 v' n1 n2 L hm1 hg1 hr3 hn1 hL hg2 => by
        subst hn1 hL
        have s1 := hg1.size
        have s2 := hg2.size
        simp only [World.size_alloc] at s1 s2
        have low1 : ∀ g, g < W.heap.size → g ≠ w.heap.size + 1 → w1.heap[g]? = W.heap[g]? := fun g h1 h2 => (hg1.block g (by simp; omega) (fun e => h2 (by cases e; rfl))).trans (((Below.refl _ W).alloc (Nat.le_refl _) _).block g h1)
        have low2 : ∀ g, g < w.heap.size + 5 → w3.heap[g]? = w1.heap[g]? := fun g h1 => (hg2.block g (by simp; omega) (fun e => by have := (own_lt ho g e.symm).1; omega)).trans (((Below.refl _ w1).alloc (Nat.le_refl _) _).block g (by omega))
        have bx : w3.heap[w.heap.size]? = some (.cells #[u] 29 (0, 0)) := (low2 _ (by omega)).trans ((low1 _ (by omega) (by omega)).trans hu)
        have el : lps (pre ++ [⟨(i, a, b, c, d), hx⟩]) = lps pre ++ [b] := by rw [HSn.out]; unfold dst; exact if_neg (by rw [hc]; decide)
        have hbel : Below w.heap.size W (w3.setCell ⟨w.heap.size, 0, none⟩ v') :=
          (((((Below.refl w.heap.size W).alloc (by omega) _).grown hg1 (by simp; omega) (fun k e => by cases e; omega)).alloc (by omega) _).grown hg2 (by simp; omega) (fun k e => by have := (own_lt ho k e).1; omega)).setCell (p := ⟨w.heap.size, 0, none⟩) (Nat.le_refl _) _
        refine ⟨cel0 bx, frz bx 0, Lib.hid ⟨?_, ⟨hbel, fun g hg => ?_⟩, ⟨⟨v', set_blk _ _ 0 _ bx, ?_⟩, ?_, ?_, HI.out.b.trans hbel, ?_⟩⟩⟩
        · refine (((((KeepsOthers.alloc W _).from _).trans (KeepsFrom.of_grownBy hg1 (fun j e => by cases e; omega))).trans ((KeepsOthers.alloc w1 _).from _)).trans ((KeepsOthers.of_grownBy hg2 (fun j o ej hj => ?_)).from _)).trans ((KeepsOthers.setCell _ _ _).from _)
          have hj' := own_lt ho j ej
          obtain ⟨_, ⟨rfl, _⟩ | ⟨g, cap, cur, rfl, _, hgb, _⟩⟩ := ho
          · simp [Value.ownBlock] at ej
          · obtain rfl : g = j := by simpa [Value.ownBlock] using ej
            rw [(((Below.refl _ w1).alloc (Nat.le_refl _) _).block g (by omega)), low1 g hj'.2 (by omega), hgb] at hj
            cases hj
            rfl
        · have h5 : g < w.heap.size + 5 := by rcases hg with rfl | rfl <;> omega
          exact (set_oth _ _ _ _ _ (by rcases hg with rfl | rfl <;> omega)).trans ((low2 g h5).trans (low1 g (by omega) (by rcases hg with rfl | rfl <;> omega)))
        · rw [el, List.map_append, List.length_append]
          exact own_keep hr3 (fun g hge _ _ => set_oth _ _ _ _ _ (by omega))
        · exact (set_oth _ _ _ _ _ (by omega)).trans ((low2 _ (by omega)).trans ((low1 _ (by omega) (by omega)).trans HI.out.m))
        · rw [el, lset_snoc, List.length_append]
          exact ((hm1.alloc _).kept hg2 (fun e => by have := (own_lt ho _ e.symm).1; omega)).setCell (by show w.heap.size + 1 ≠ w.heap.size; omega) _
        · rw [set_size]; omega
      have HW1 : Hid (∀ w1, (W.alloc (.cells #[] 55)).grownBy w1 (some (w.heap.size + 1)) → w1.cell? ⟨w.heap.size, 0, none⟩ = some u ∧ w1.cell? ⟨B, 1, none⟩ = some (.int .i64 b) ∧ B < w1.heap.size ∧ w.heap.size + 5 ≤ w1.heap.size ∧ w1.ownsRow (w.heap.size + 5) 3 1 u (lps pre).length ((lps pre).map (Value.int .i64))) := Lib.hid fun w1 hg1 => by
        have s1 := hg1.size
        simp only [World.size_alloc] at s1
        have low1 : ∀ g, g < W.heap.size → g ≠ w.heap.size + 1 → w1.heap[g]? = W.heap[g]? := fun g h1 h2 => (hg1.block g (by simp; omega) (fun e => h2 (by cases e; rfl))).trans (((Below.refl _ W).alloc (Nat.le_refl _) _).block g h1)
        have hBn : B ≠ w.heap.size + 1 := fun e => by
          obtain ⟨_, _, hb, _⟩ := hs
          rw [← e, show W.heap[B]? = _ from hB] at hb
          cases hb
        exact ⟨cel0 ((low1 _ (by omega) (by omega)).trans hu), cel ((low1 B bB hBn).trans hB) 1, by omega, by omega, own_keep ho (fun g hge hlt _ => low1 g hlt (by omega))⟩
      have hll : (lps pre).length ≤ 1000000 := by omega
      gi_wp2_with (first | (gi_at_lookup; refine wpListIn_lookup_own_unit _ rfl _ _ 51 rfl 3 55 lawI Try.underlying51 (zeroU _) (w.heap.size + 1) _ _ rfl hs _ _ rfl hkey ?_; rw [has_lset, hc]) | (gi_at_mapUpdate; refine wpListIn_mapUpdate_own _ rfl _ _ _ 51 rfl 3 55 lawI Try.underlying51 (unitElem (H := Unit)) (w.heap.size + 1) _ _ rfl (hs.alloc _) (by unfold maxLen; omega) _ _ _ rfl rfl hkey _ [] unitElem_mk ?_; intro w1 hown1 hgrow1; obtain ⟨q0, q1, q2, q3, hrow1⟩ := HW1.out w1 hgrow1) | (gi_at_builtin; refine wpListIn_append_own _ rfl _ _ 29 rfl (w.heap.size + 5) 3 i0 (.int .i64 0) 1 8 Try.underlying29 hinf hz0 hz1 hz2 rfl (by decide) _ _ _ rfl (hrow1.alloc _) ⟨w1.heap.size, 0, none⟩ 1 1 [.int .i64 b] rfl rfl (cell_one_new _ _ _) (ints_oneCell .i64 [b]) (by unfold maxLen; omega) (by omega) (by simp; omega) ?_; intro v' w3 hown' hgrow2 _; obtain ⟨va, vn, vc, rfl⟩ := own_form hown'; obtain ⟨c3, z3, F3⟩ := HF.out w1 w3 _ _ 0 _ hown1 hgrow1 hown' rfl rfl hgrow2))
      exact F3.out
    · have HP : Hid (∀ o : Obj, LI w (pre ++ [⟨(i, a, b, c, d), hx⟩]) (W.alloc o)) := Lib.hid fun o => by
        have h := (HBL.out o).2.2
        have e : lps (pre ++ [⟨(i, a, b, c, d), hx⟩]) = lps pre := by rw [HSn.out]; unfold dst; exact if_pos hc
        obtain ⟨h1, h2, h3, h4, h5⟩ := h
        exact ⟨by rw [e]; exact h1, h2, by rw [e, List.length_append]; exact h3.mono (Nat.le_add_right _ _), h4, h5⟩
      gi_wp2_with (gi_at_lookup; refine wpListIn_lookup_own_unit _ rfl _ _ 51 rfl 3 55 lawI Try.underlying51 (zeroU _) (w.heap.size + 1) _ _ rfl hs _ _ rfl hkey ?_; rw [has_lset, hc])
      exact ⟨(HBL.out _).1, (HBL.out _).2.1, HP.out _⟩
  case done =>
    rintro D ys W hD hS hi hK
    obtain ⟨u, hu, ho⟩ := hi.v
    have hB := hi.b
    have cu : W.cell? ⟨w.heap.size, 0, none⟩ = some u := cel0 hu
    have nu := lt_of hu
    have HO : Hid (∀ o', (W.putObj D o').ownsRow w.heap.size 3 1 u (dds (es.map fun x => x.2.1)).length ((dds (es.map fun x => x.2.1)).map (Value.int .i64))) := Lib.hid (fun o' => by
      have h2 := own_keep (W' := W.putObj D o') ho (fun g hg hlt h => World.putObj_heap_other (fun e => by
        obtain ⟨o, ho2, hc⟩ := h
        rw [e, hK] at ho2
        cases ho2
        cases hc))
      have e : lps ys = dds (es.map fun x => x.2.1) := by unfold lps; rw [hS, tel_q1 es _ (Nat.le_refl _), List.take_length]
      rw [e] at h2
      obtain ⟨h0, h1 | ⟨g, cap, cur, h1, hge, h3⟩⟩ := h2
      · exact ⟨h0, .inl h1⟩
      · exact ⟨h0, .inr ⟨g, cap, cur, h1, by omega, h3⟩⟩)
    clear ho hi hu hS
    gi_wp2
    refine ⟨by simp, .inl ⟨_, _, rfl, run_takeDeferred hK, ?_⟩⟩
    exact ⟨_, results_tmp rfl _ _ _, u, rfl, HO.out _, hB.trans (belowK_b (w := w) (Nat.le_refl _) W D _ _ (by omega) hK rfl rfl)⟩
  case stop =>
    rintro D c pre W _ _ h _
    exact h.elim
theorem loops_v (n0 A : Nat) (v : Value) (es : List I4) (w : World) (hl : es.length ≤ 1000000) (hwf : ∀ x ∈ es, (Lit.int .i64 x.2.1).wf = true) (hA : LG n0 w A v es) :
    Calls Try.prog 8 #[.pointer (some ⟨A, 0, none⟩)] w fun e W' => ∃ u, e = .returned u ∧ W'.ownsRow w.heap.size 3 1 u (dds (es.map fun x => x.2.1)).length ((dds (es.map fun x => x.2.1)).map (Value.int .i64)) ∧ Below w.heap.size w W' :=
  callsIn_wide.1 (loops_in Fence.wide 3 trivial trivial trivial trivial rfl (by omega) n0 A v es w hl hwf hA)
end Go.Proofs.Ytokkgfefiblmiaa.lg
