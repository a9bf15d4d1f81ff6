/- Count; the last event; the events told to a function (layer 24). -/
import Derived.Test.YtokkgfefiblmiaaLgC
import Derived.Shelf.RegionOpen
import Derived.Shelf.Abstract
namespace Go.Proofs.Ytokkgfefiblmiaa.lg
open Go.ChangeShapes Go.WideShapes Go.ChangeAt Go.RowKit
open Go.Proofs.Ytokkgfefiblmiaa.ro Go.Shelf
set_option linter.unusedVariables false
set_option linter.unusedSimpArgs false
attribute [local go_sem] Oper.semAt_some
theorem those_in (F : Fence) (n : Nat) (h5 : F.fn 23) (hro : F.round = none) (p0 : Option Addr) (g : Nat) (cs : Array Value) (w : World) :
    CallsIn F n Try.prog 23 #[.pointer p0, .func (.func g) #[] cs] w fun e w' => e = .returned (.func (.func 35) #[] #[.pointer (some ⟨w.heap.size, 0, none⟩), .pointer (some ⟨w.heap.size + 1, 0, none⟩)]) ∧ w' = (w.alloc (.cells #[.pointer p0] 24)).alloc (.cells #[.func (.func g) #[] cs] 54) := by
  refine callsIn_of_wp Try.func23 rfl h5 ?_ hro
  simp only [Try.ntmps23, List.size_toArray, List.length_cons, List.length_nil, Nat.reduceAdd, Nat.reduceSub, Array.replicate_succ, Array.replicate_zero, List.push_toArray, List.append_toArray, List.nil_append, List.cons_append]
  gi_wp2
  go_ret
  exact ⟨rfl, rfl⟩
theorem cell_new_l (W : World) (v : Value) (t : TypeId) : (W.alloc (.cells #[v] t)).cell? ⟨W.heap.size, 0, none⟩ = some v ∧ (W.alloc (.cells #[v] t)).frozen? ⟨W.heap.size, 0, none⟩ = false := by
  have h : (W.alloc (.cells #[v] t)).heap[W.heap.size]? = some (.cells #[v] t (0, 0)) := heap_new W _
  exact ⟨by simp only [World.cell?, h]; rfl, by simp only [World.frozen?, h]; rfl⟩
theorem hal {W : World} {b : Nat} {o : Obj} (o' : Obj) (h : W.heap[b]? = some o) : (W.alloc o').heap[b]? = some o := blkb h ((Below.refl _ W).alloc (Nat.le_refl _) _)
/-- An event with its place, its loop an int. -/
abbrev EvW : Type := { x : Int × I4 // (Lit.int .i64 x.2.2.1).wf = true }
def evs (p : List EvW) : List (Int × I4) := p.map Subtype.val
theorem evs_snoc (p : List EvW) (x : EvW) : evs (p ++ [x]) = evs p ++ [x.1] := by simp [evs]
theorem stops1_in (F : Fence) (n : Nat) (h6 : F.fn 35) (hg : F.fn 24) (hro : F.round = none) (hn : 1 ≤ n) (Bl Bi Kb : Nat) (y : Int) (S : Nat → Prop) (hSl : S Bl) (hSi : S Bi) (hSk : S Kb) (n0 A : Nat) (v : Value) (es : List I4) (w w0 : World) (hwf : ∀ x ∈ es, (Lit.int .i64 x.2.1).wf = true) (hle : es.length ≤ 1000000)
    (hA : LG n0 w A v es) (hb : Below w.heap.size w w0) (hBl : w0.heap[Bl]? = some (.cells #[.pointer (some ⟨A, 0, none⟩)] 24 (0, 0))) (hBi : w0.heap[Bi]? = some (.cells #[.func (.func 24) #[] #[]] 54 (0, 0))) (hBk : w0.heap[Kb]? = some (.cells #[.int .i64 y] 3 (0, 0)) ∨ True) :
    SeqStopsK (α := EvW) F n Try.prog 35 #[.pointer (some ⟨Bl, 0, none⟩), .pointer (some ⟨Bi, 0, none⟩)] (fun x => #[Value.int .i64 x.1.1, .agg #[.int .i64 x.1.2.1, .int .i64 x.1.2.2.1, .int .i64 x.1.2.2.2.1, .int .i64 x.1.2.2.2.2]]) (KpS w.heap.size S) (fun ys => evs ys = tel q1 es es.length) (fun pre => evs pre <+: tel q1 es es.length) es.length w0 := fun l J Jx W hW hJa _ hY h0 => by
  refine (tells1_in F n h6 hg hro hn l Bl Bi Kb y S hSl hSi hSk n0 A v es w hle hA (fun pre W => ∃ p, evs p = pre ∧ J p W) (fun pre W => ∃ p, evs p = pre ∧ Jx p W) ?_ ?_ W (hb.trans (hW.mono hb.size)) (blkb hBl hW) (blkb hBi hW) (hBk.imp (fun h => blkb h hW) id) ⟨[], rfl, h0⟩).mono ?_
  · rintro s A B ⟨p, hp, hs⟩ hb
    exact ⟨p, hp, hJa p A B none hs ⟨hb.os, hb.tape, hb.output, hb.size, fun k hk _ => hb.block k hk⟩ (fun r e => by cases e)⟩
  · rintro pre i a b c d W hm ⟨p, rfl, hJ⟩ hl
    refine (hY p ⟨(i, (a, b, c, d)), hwf _ hm⟩ W hJ (by simpa [evs] using hl)).mono ?_
    rintro e W' (⟨rfl, h1, h2⟩ | ⟨rfl, h1⟩)
    · exact .inl ⟨rfl, ⟨_, evs_snoc _ _, h1⟩, h2⟩
    · exact .inr ⟨rfl, _, evs_snoc _ _, h1⟩
  · rintro e W' ⟨hv, (⟨_, rfl, p, hp, h⟩ | ⟨_, hpre, p, rfl, h⟩)⟩
    · exact ⟨hv, .inl ⟨p, hp, h⟩⟩
    · exact ⟨hv, .inr ⟨p, hpre, h⟩⟩
theorem stopsk_in (F : Fence) (n : Nat) (h6 : F.fn 35) (hg : F.fn 34) (hro : F.round = none) (hn : 1 ≤ n) (Bl Bi Kb : Nat) (y : Int) (S : Nat → Prop) (hSl : S Bl) (hSi : S Bi) (hSk : S Kb) (n0 A : Nat) (v : Value) (es : List I4) (w w0 : World) (hle : es.length ≤ 1000000)
    (hA : LG n0 w A v es) (hb : Below w.heap.size w w0) (hBl : w0.heap[Bl]? = some (.cells #[.pointer (some ⟨A, 0, none⟩)] 24 (0, 0))) (hBi : w0.heap[Bi]? = some (.cells #[.func (.func 34) #[] #[.pointer (some ⟨Kb, 0, none⟩)]] 54 (0, 0))) (hBk : w0.heap[Kb]? = some (.cells #[.int .i64 y] 3 (0, 0)) ∨ False) :
    SeqStopsK F n Try.prog 35 #[.pointer (some ⟨Bl, 0, none⟩), .pointer (some ⟨Bi, 0, none⟩)] (fun x : Int × I4 => #[Value.int .i64 x.1, .agg #[.int .i64 x.2.1, .int .i64 x.2.2.1, .int .i64 x.2.2.2.1, .int .i64 x.2.2.2.2]]) (KpS w.heap.size S) (fun ys => ys = tel (qk y) es es.length) (fun pre => pre <+: tel (qk y) es es.length) es.length w0 := fun l J Jx W hW hJa _ hY h0 =>
  tellsk_in F n h6 hg hro hn l Bl Bi Kb y S hSl hSi hSk n0 A v es w hle hA J Jx (fun s A B hs hb => hJa s A B none hs ⟨hb.os, hb.tape, hb.output, hb.size, fun k hk _ => hb.block k hk⟩ (fun r e => by cases e)) (fun pre i a b c d W _ hJ hl => hY pre (i, (a, b, c, d)) W hJ hl) W (hb.trans (hW.mono hb.size)) (blkb hBl hW) (blkb hBi hW) (hBk.imp (fun h => blkb h hW) id) h0
set_option maxRecDepth 100000 in
set_option maxHeartbeats 2000000 in
theorem count_in (F : Fence) (n : Nat) (h3 : F.fn 21) (h5 : F.fn 23) (h6 : F.fn 35) (hg : F.fn 34) (hro : F.round = none) (hn : 3 ≤ n) (n0 A : Nat) (v : Value) (es : List I4) (w : World) (y : Int) (hl : es.length ≤ 1000000)
    (hA : LG n0 w A v es) :
    CallsIn F n Try.prog 21 #[.pointer (some ⟨A, 0, none⟩), .int .i64 y] w fun e W' => e = .returned (.int .i64 ((tel (qk y) es es.length).length : Nat)) ∧ Below w.heap.size w W' := by
  have h1 : 1 ≤ n := by omega
  refine callsIn_of_wp_marks Try.func21 rfl h3 ?_ hro
  simp only [Try.ntmps21, List.size_toArray, List.length_cons, List.length_nil, Nat.reduceAdd, Nat.reduceSub, Array.replicate_succ, Array.replicate_zero, List.push_toArray, List.append_toArray, List.nil_append, List.cons_append]
  gi_wp2_with (gi_at_call 23; refine (those_in F (n - 1) h5 hro _ _ _ _).mono ?_; rintro e w' ⟨rfl, rfl⟩)
  obtain ⟨wa, hwa⟩ : ∃ wa, w.alloc (.cells #[.int .i64 y] 3) = wa := ⟨_, rfl⟩
  obtain ⟨wb, hwb⟩ : ∃ wb, wa.alloc (.cells #[.int .i64 0] 3) = wb := ⟨_, rfl⟩
  obtain ⟨wc, hwc⟩ : ∃ wc, wb.alloc (.cells #[.pointer (some ⟨A, 0, none⟩)] 24) = wc := ⟨_, rfl⟩
  obtain ⟨wd, hwd⟩ : ∃ wd, wc.alloc (.cells #[.func (.func 34) #[] #[.pointer (some ⟨w.heap.size, 0, none⟩)]] 54) = wd := ⟨_, rfl⟩
  have sa : wa.heap.size = w.heap.size + 1 := by rw [← hwa]; simp
  have sb : wb.heap.size = w.heap.size + 2 := by rw [← hwb, World.size_alloc, sa]
  have sc : wc.heap.size = w.heap.size + 3 := by rw [← hwc, World.size_alloc, sb]
  have sd : wd.heap.size = w.heap.size + 4 := by rw [← hwd, World.size_alloc, sc]
  have b0 : wd.heap[w.heap.size]? = some (.cells #[.int .i64 y] 3 (0, 0)) := by rw [← hwd, ← hwc, ← hwb, ← hwa]; exact hal _ (hal _ (hal _ (heap_new w _)))
  have b1 : wd.heap[w.heap.size + 1]? = some (.cells #[.int .i64 0] 3 (0, 0)) := by rw [← hwd, ← hwc, ← hwb, ← sa]; exact hal _ (hal _ (heap_new wa _))
  have b2 : wd.heap[w.heap.size + 2]? = some (.cells #[.pointer (some ⟨A, 0, none⟩)] 24 (0, 0)) := by rw [← hwd, ← hwc, ← sb]; exact hal _ (heap_new wb _)
  have b3 : wd.heap[w.heap.size + 3]? = some (.cells #[.func (.func 34) #[] #[.pointer (some ⟨w.heap.size, 0, none⟩)]] 54 (0, 0)) := by rw [← hwd, ← sc]; exact heap_new wc _
  have hB0 : Below w.heap.size w wd := by rw [← hwd, ← hwc, ← hwb, ← hwa]; go_grown
  rw [hwa, hwb, hwc, hwd]
  clear hwa hwb hwc hwd sa sb sc
  have hUL := tel_le (qk y) es es.length
  refine wpIn_rangeFunc_ownF hro h1 (gf := 35) (lb := #[.pointer (some ⟨w.heap.size + 1 + 1, 0, none⟩), .pointer (some ⟨w.heap.size + 1 + 1 + 1, 0, none⟩)]) rfl h6 (enters_of Try.func35 (by kernel_rfl) rfl)
    (stopsk_in F (n - 1) h6 hg hro (by omega) (w.heap.size + 1 + 1) (w.heap.size + 1 + 1 + 1) w.heap.size y (fun b => b ≠ w.heap.size + 1 ∧ b < w.heap.size + 4) (by omega) (by omega) (by omega) n0 A v es w wd hl hA hB0 b2 b3 (.inl b0)) kpS_t (fun W l o o' hl' ho hc _ => ⟨belowK_b (w := w) (Nat.le_refl _) W l o o' (by omega) ho hc (by assumption), fun b hb => World.putObj_heap_other (fun e => by omega)⟩) (Below.refl _ _) (fun _ => rfl)
    (fun pre W => (W.cell? ⟨w.heap.size + 1, 0, none⟩ = some (.int .i64 (pre.length : Nat)) ∧ W.frozen? ⟨w.heap.size + 1, 0, none⟩ = false) ∧ Below w.heap.size w W)
    (fun _ _ _ => False)
    (OwnFrom.and (Own.from (fun s A B row hs hg hr => ⟨cell_kept hs.1 hg hr, (frozen_kept hs.1 hg hr).trans hs.2⟩) _) (ownFrom_below (Nat.le_refl _) (by omega)))
    (fun _ _ _ _ _ hs _ _ => hs)
    ⟨⟨cel b1 0, frz b1 0⟩, hB0⟩
    (fun x => { tmps := #[.pointer (some ⟨A, 0, none⟩), .int .i64 y, undef, .pointer (some ⟨w.heap.size, 0, none⟩), .int .i64 0, .pointer (some ⟨w.heap.size + 1, 0, none⟩), .pointer (some ⟨A, 0, none⟩), .func (.func 34) #[] #[.pointer (some ⟨w.heap.size, 0, none⟩)], .func (.func 35) #[] #[.pointer (some ⟨w.heap.size + 1 + 1, 0, none⟩), .pointer (some ⟨w.heap.size + 1 + 1 + 1, 0, none⟩)], .int .i64 x.1, .agg #[.int .i64 x.2.1, .int .i64 x.2.2.1, .int .i64 x.2.2.2.1, .int .i64 x.2.2.2.2], undef, undef, undef], defers := [] }) ?assign ?body ?done ?stop
  case assign =>
    intro l x W K hK
    gi_wp2
    simpa using hK
  case body =>
    rintro l pre x W ⟨⟨hc, hf⟩, hB⟩ hlen
    have hlen' : pre.length ≤ 1000000 := by omega
    have HT : Hid ((pre ++ [x]).length = pre.length + 1) := Lib.hid (by simp)
    have hBk : Below w.heap.size W (W.setCell ⟨w.heap.size + 1, 0, none⟩ (.int .i64 ((pre.length : Int) + 1))) := (Below.refl w.heap.size W).setCell (p := ⟨w.heap.size + 1, 0, none⟩) (by show w.heap.size ≤ w.heap.size + 1; omega) _
    gi_wp2
    refine ⟨KeepsOthers.setCell _ _ _, ⟨hBk, fun b hb => set_oth _ _ _ _ _ hb.1⟩, ⟨?_, by rw [World.frozen?_setCell]; exact hf⟩, hB.trans hBk⟩
    rw [HT.out]
    exact World.cell?_setCell_same' _ _ _ (by rw [hc]; rfl)
  case done =>
    rintro D ys W hD rfl ⟨⟨hc, _⟩, hB⟩ hK
    gi_wp2
    refine ⟨by simp, .inl ⟨_, _, rfl, run_takeDeferred hK, ?_⟩⟩
    exact ⟨_, results_tmp rfl _ _ _, rfl, hB.trans (belowK_b (w := w) (Nat.le_refl _) W D _ _ (by omega) hK rfl rfl)⟩
  case stop =>
    rintro D c pre W _ _ h _
    exact h.elim
theorem count_v (n0 A : Nat) (v : Value) (es : List I4) (w : World) (y : Int) (hl : es.length ≤ 1000000) (hA : LG n0 w A v es) :
    Calls Try.prog 21 #[.pointer (some ⟨A, 0, none⟩), .int .i64 y] w fun e W' => e = .returned (.int .i64 ((tel (qk y) es es.length).length : Nat)) ∧ Below w.heap.size w W' :=
  callsIn_wide.1 (count_in Fence.wide 3 trivial trivial trivial trivial rfl (by omega) n0 A v es w y hl hA)
end Go.Proofs.Ytokkgfefiblmiaa.lg
