/- A table of frames in memory: its object and its list; how it is made (layer 16). -/
import Derived.Test.YtbmndjedgedbdaaArW
import Derived.Test.YtbmndjedgedbdaaFill1
import Derived.Test.YtbmndjedgedbdaaLayout3
import Derived.Test.YtbmndjedgedbdaaNoPlan
import Derived.Deep.RegionHeld3
import Derived.Deep.DrawnRows
namespace Go.Proofs.Ytbmndjedgedbdaa.fr
open Go.ChangeShapes Go.WideShapes Go.ChangeAt Go.RowKit
open Go.Proofs.Ytbmndjedgedbdaa.ar
attribute [local go_sem ↓] Go.wp_at_zero Go.wp_at_succ
set_option linter.unusedVariables false
set_option linter.unusedSimpArgs false
theorem run_make_cells (P : Program) (t e : TypeId) (z : Value) (size bytes : Nat) (ht : P.underlying t = some (.slice e)) (hinfo : (P.info? e).map (fun i => (i.zero, i.size, i.bytes)) = some (some z, size, bytes))
    (kl kc : IntKind) (n : Nat) (hbytes : bytes * n ≤ 281474976710656) (h63 : n ≤ 9223372036854775807) (w : World) :
    (Instr.makeSlice t (.int kl (n : Int)) (.int kc (n : Int))).run P w = .ok (.slice (some ⟨w.heap.size, 0, none⟩) n n) (w.alloc (.cells (madeCells z.cells (n * size)) e)) := by
  obtain ⟨i, hi, hzz⟩ := Option.map_eq_some_iff.1 hinfo
  simp only [Prod.mk.injEq] at hzz
  obtain ⟨hz, hs, hb⟩ := hzz
  have hb' : (i.bytes : Int) * (n : Int) ≤ 281474976710656 := by
    have h : ((i.bytes * n : Nat) : Int) ≤ 281474976710656 := by rw [hb]; omega
    rwa [Int.natCast_mul] at h
  have hr := run_make (P := P) w t e i z ht hi hz kl kc n n (by omega) (Int.le_refl _) hb' (by omega)
  simp only [Int.toNat_natCast, hs] at hr
  exact hr
def TAt (w : World) (T : Nat) (a b c d : Int) (S A L n : Nat) : Prop := w.heap[T]? = some (.cells #[.int .i64 a, .int .i64 b, .int .i64 c, .int .i64 d, .pointer (some ⟨S, 0, none⟩), .pointer (some ⟨A, 0, none⟩), .slice (some ⟨L, 0, none⟩) n n] 105 (0, 0))
theorem TAt.cells {w : World} {T : Nat} {a b c d : Int} {S A L n : Nat} (h : TAt w T a b c d S A L n) : w.cell? ⟨T, 0, none⟩ = some (.int .i64 a) ∧ w.cell? ⟨T, 1, none⟩ = some (.int .i64 b) ∧ w.cell? ⟨T, 2, none⟩ = some (.int .i64 c) ∧ w.cell? ⟨T, 3, none⟩ = some (.int .i64 d) ∧ w.cell? ⟨T, 4, none⟩ = some (.pointer (some ⟨S, 0, none⟩)) ∧ w.cell? ⟨T, 5, none⟩ = some (.pointer (some ⟨A, 0, none⟩)) ∧ w.cell? ⟨T, 6, none⟩ = some (.slice (some ⟨L, 0, none⟩) n n) := by
  unfold TAt at h
  refine ⟨?_, ?_, ?_, ?_, ?_, ?_, ?_⟩ <;> simp [World.cell?, h]
theorem as_resp {S S' : Nat → Prop} {B A : Nat} {w : World} {m f p : Int} {oh ob hv bv : Value} {hs : List Bool} {bk : List Int} (h : AS S B A w m f p oh ob hv bv hs bk) (h' : ∀ k, S' k → k < w.heap.size ∧ k ≠ A ∧ hv.ownBlock ≠ some k ∧ bv.ownBlock ≠ some k) : AS S' B A w m f p oh ob hv bv hs bk :=
  ⟨h.obj, h.rh, h.rb, h.h1, h.h2, h.h3, h.base, h'⟩
theorem keep4 {w w' : World} {v0 v1 v2 v3 : Value} {t : Nat} (hb : Below (w.alloc (.cells #[v0, v1, v2, v3] t)).heap.size (w.alloc (.cells #[v0, v1, v2, v3] t)) w') : w'.cell? ⟨w.heap.size, 0, none⟩ = some v0 ∧ w'.cell? ⟨w.heap.size, 1, none⟩ = some v1 ∧ w'.cell? ⟨w.heap.size, 2, none⟩ = some v2 ∧ w'.cell? ⟨w.heap.size, 3, none⟩ = some v3 ∧ Below w.heap.size w w' := by
  have h0 : Below w.heap.size w (w.alloc (.cells #[v0, v1, v2, v3] t)) := by go_grown
  have hl : w.heap.size < (w.alloc (.cells #[v0, v1, v2, v3] t)).heap.size := by simp
  exact ⟨(hb.cell (p := ⟨w.heap.size, 0, none⟩) hl).trans (by go_simp), (hb.cell (p := ⟨w.heap.size, 1, none⟩) hl).trans (by go_simp), (hb.cell (p := ⟨w.heap.size, 2, none⟩) hl).trans (by go_simp), (hb.cell (p := ⟨w.heap.size, 3, none⟩) hl).trans (by go_simp), h0.trans (hb.mono h0.size)⟩
theorem keepB {w1 W W' : World} {B : Nat} {v0 v1 v2 v3 : Value} (h : Below w1.heap.size w1 W ∧ W.cell? ⟨B, 0, none⟩ = some v0 ∧ W.cell? ⟨B, 1, none⟩ = some v1 ∧ W.cell? ⟨B, 2, none⟩ = some v2 ∧ W.cell? ⟨B, 3, none⟩ = some v3) (hb : Below W.heap.size W W') : Below w1.heap.size w1 W' ∧ W'.cell? ⟨B, 0, none⟩ = some v0 ∧ W'.cell? ⟨B, 1, none⟩ = some v1 ∧ W'.cell? ⟨B, 2, none⟩ = some v2 ∧ W'.cell? ⟨B, 3, none⟩ = some v3 :=
  ⟨btn h.1 (hb.mono h.1.size), keepc h.2.1 hb, keepc h.2.2.1 hb, keepc h.2.2.2.1 hb, keepc h.2.2.2.2 hb⟩
theorem keepp {w w' : World} {B : Nat} {v0 v1 v2 v3 : Value} (h0 : w.cell? ⟨B, 0, none⟩ = some v0) (h1 : w.cell? ⟨B, 1, none⟩ = some v1) (h2 : w.cell? ⟨B, 2, none⟩ = some v2) (h3 : w.cell? ⟨B, 3, none⟩ = some v3) (hb : Below w.heap.size w w') : w'.cell? ⟨B, 0, none⟩ = some v0 ∧ w'.cell? ⟨B, 1, none⟩ = some v1 ∧ w'.cell? ⟨B, 2, none⟩ = some v2 ∧ w'.cell? ⟨B, 3, none⟩ = some v3 :=
  ⟨keepc h0 hb, keepc h1 hb, keepc h2 hb, keepc h3 hb⟩
def LAt (w : World) (L : Nat) (ps : List Value) : Prop := w.heap[L]? = some (.cells ps.toArray 45 (0, 0))
theorem nils_cells (n : Nat) : madeCells #[Value.pointer none] n = (List.replicate n (Value.pointer none)).toArray := by
  apply Array.ext
  · simp [size_madeCells]
  · intro i h1 h2
    simp [madeCells, Nat.mod_one]
theorem as_new {B0 A : Nat} {w : World} {m : Int} (h : AS (fun _ => False) B0 A w m 0 0 (.slice none 0 0) (.slice none 0 0) (.slice none 0 0) (.slice none 0 0) [] []) {w0 : World} {T L : Nat} (h0 : w0.heap.size ≤ A) (hT : T < w.heap.size) (hL : L < w.heap.size) (hTA : T ≠ A) (hLA : L ≠ A) : AS (fun k => k < w0.heap.size ∨ k = T ∨ k = L) B0 A w m 0 0 (.slice none 0 0) (.slice none 0 0) (.slice none 0 0) (.slice none 0 0) [] [] :=
  as_resp h fun k hk => by
    have hl := h.lt
    refine ⟨?_, ?_, by simp [Value.ownBlock], by simp [Value.ownBlock]⟩
    · rcases hk with hk | rfl | rfl <;> omega
    · rcases hk with hk | rfl | rfl
      · omega
      · exact hTA
      · exact hLA
set_option maxRecDepth 20000 in
set_option maxHeartbeats 1000000 in
theorem tab_new (S : Nat) (a c d : Int) (m : Nat) (hO : Hid (Okay a (m : Int) c d)) (hm : m ≤ 256) (B0 : Nat) (w : World) (hB : B0 ≤ w.heap.size) :
    Calls Try.prog 42 #[.agg #[.int .i64 a, .int .i64 (m : Int), .int .i64 c, .int .i64 d], .pointer (some ⟨S, 0, none⟩)] w fun e w' => ∃ T A L, e = .returned (.pointer (some ⟨T, 0, none⟩)) ∧ TAt w' T a (m : Int) c d S A L m ∧ LAt w' L (List.replicate m (.pointer none)) ∧ AS (fun k => k < w.heap.size ∨ k = T ∨ k = L) B0 A w' m 0 0 (.slice none 0 0) (.slice none 0 0) (.slice none 0 0) (.slice none 0 0) [] [] ∧ (w.heap.size ≤ T ∧ w.heap.size ≤ A ∧ w.heap.size ≤ L ∧ T ≠ A ∧ T ≠ L ∧ A ≠ L) ∧ Below w.heap.size w w' := by
  have hmk := fun w kl kc => run_make_cells Try.prog 103 45 (.pointer none) 1 8 Try.underlying103 (by kernel_rfl) kl kc m (by omega) (by omega) w
  have hcl : Value.cells (.pointer none) = #[.pointer none] := rfl
  simp only [hcl, Nat.mul_one, nils_cells] at hmk
  have hm1 : (if (m : Int) < 0 then (0 : Int) else (m : Int)) = (m : Int) := if_neg (by omega)
  have hm2 : (if 1000 < (m : Int) then (1000 : Int) else (m : Int)) = (m : Int) := if_neg (by omega)
  have HM1 := Lib.hid hm1
  have HM2 := Lib.hid hm2
  clear hm1 hm2
  go_enter Try.func42, Try.ntmps42
  go_wp2_with fail
  refine (check_ok a (m : Int) c d _ hO).mono ?_
  rintro e w1 ⟨rfl, hb⟩
  obtain ⟨p0, p1, p2, p3, hbw⟩ : w1.cell? ⟨w.heap.size, 0, none⟩ = some (.int .i64 a) ∧ w1.cell? ⟨w.heap.size, 1, none⟩ = some (.int .i64 (m : Int)) ∧ w1.cell? ⟨w.heap.size, 2, none⟩ = some (.int .i64 c) ∧ w1.cell? ⟨w.heap.size, 3, none⟩ = some (.int .i64 d) ∧ Below w.heap.size w w1 :=
    keep4 hb
  clear hb
  go_wp2_with fail
  go_region_held3 (fun w' => Below w1.heap.size w1 w' ∧ w'.cell? ⟨w.heap.size, 0, none⟩ = some (.int .i64 a) ∧ w'.cell? ⟨w.heap.size, 1, none⟩ = some (.int .i64 (m : Int)) ∧ w'.cell? ⟨w.heap.size, 2, none⟩ = some (.int .i64 c) ∧ w'.cell? ⟨w.heap.size, 3, none⟩ = some (.int .i64 d)) (first | (with_reducible assumption) | exact ⟨Below.refl _ _, p0, p1, p2, p3⟩ | (refine keepB ⟨Below.refl _ _, p0, p1, p2, p3⟩ ?_; go_grown; done) | (refine keepB (by with_reducible assumption) ?_; first | (with_reducible assumption) | (go_grown; done)))
    (first | (go_at_call 57; refine (new_of (fun _ => False) B0 m m m _ HM1.out HM2.out (Nat.le_trans hB (Nat.le_trans hbw.size (by simp))) (fun _ h => h.elim)).mono ?_; rintro e w2 ⟨rfl, hA, hb2⟩))
  · have hA1 : AS (fun _ => False) B0 w1.heap.size w2 m 0 0 (.slice none 0 0) (.slice none 0 0) (.slice none 0 0) (.slice none 0 0) [] [] := hA
    have hb3 : Below w1.heap.size w1 w2 := btn (by go_grown) hb2
    have hs2 := hA1.lt
    have hs1 := hbw.size
    have ha := hA1.below (w' := (w2.alloc (Obj.cells (Array.replicate m (Value.pointer none)) 45)).alloc (Obj.cells #[.int .i64 a, .int .i64 (m : Int), .int .i64 c, .int .i64 d, .pointer (some ⟨S, 0, none⟩), .pointer (some ⟨w1.heap.size, 0, none⟩), .slice (some ⟨w2.heap.size, 0, none⟩) m m] 105)) (by go_grown)
    have t1 := heap_alloc_new (w2.alloc (Obj.cells (Array.replicate m (Value.pointer none)) 45)) (Obj.cells #[.int .i64 a, .int .i64 (m : Int), .int .i64 c, .int .i64 d, .pointer (some ⟨S, 0, none⟩), .pointer (some ⟨w1.heap.size, 0, none⟩), .slice (some ⟨w2.heap.size, 0, none⟩) m m] 105)
    rw [World.size_alloc] at t1
    have t2 : ((w2.alloc (Obj.cells (Array.replicate m (Value.pointer none)) 45)).alloc (Obj.cells #[.int .i64 a, .int .i64 (m : Int), .int .i64 c, .int .i64 d, .pointer (some ⟨S, 0, none⟩), .pointer (some ⟨w1.heap.size, 0, none⟩), .slice (some ⟨w2.heap.size, 0, none⟩) m m] 105)).heap[w2.heap.size]? = some (.cells (List.replicate m (Value.pointer none)).toArray 45 (0, 0)) := by
      have := heap_alloc_new w2 (Obj.cells (Array.replicate m (Value.pointer none)) 45)
      have hb := (show Below (w2.alloc (Obj.cells (Array.replicate m (Value.pointer none)) 45)).heap.size (w2.alloc (Obj.cells (Array.replicate m (Value.pointer none)) 45)) ((w2.alloc (Obj.cells (Array.replicate m (Value.pointer none)) 45)).alloc (Obj.cells #[.int .i64 a, .int .i64 (m : Int), .int .i64 c, .int .i64 d, .pointer (some ⟨S, 0, none⟩), .pointer (some ⟨w1.heap.size, 0, none⟩), .slice (some ⟨w2.heap.size, 0, none⟩) m m] 105)) by go_grown).block w2.heap.size (by simp)
      rw [hb, this]; simp
    have hbf : Below w.heap.size w ((w2.alloc (Obj.cells (Array.replicate m (Value.pointer none)) 45)).alloc (Obj.cells #[.int .i64 a, .int .i64 (m : Int), .int .i64 c, .int .i64 d, .pointer (some ⟨S, 0, none⟩), .pointer (some ⟨w1.heap.size, 0, none⟩), .slice (some ⟨w2.heap.size, 0, none⟩) m m] 105)) := btn hbw ((btn hb3 ((show Below w2.heap.size w2 _ by go_grown).mono hb3.size)).mono hbw.size)
    have FIN := Lib.hid (And.intro t1 (And.intro t2 (And.intro (as_new (w0 := w) (T := w2.heap.size + 1) (L := w2.heap.size) ha hbw.size (by simp) (by simp; omega) (by omega) (by omega)) hbf)))
    clear p0 p1 p2 p3 hA hb2 hA1 hb3 ha t1 t2 hbf
    go_wp2_with fail
    go_ret
    exact ⟨_, _, _, rfl, FIN.out.1, FIN.out.2.1, FIN.out.2.2.1, by omega, FIN.out.2.2.2⟩
  · have hA1 : AS (fun _ => False) B0 (w1.heap.size + 1) w2 m 0 0 (.slice none 0 0) (.slice none 0 0) (.slice none 0 0) (.slice none 0 0) [] [] := by simpa using hA
    have hb3 : Below (w1.heap.size + 1) (w1.alloc (Obj.cells (Array.replicate m (Value.pointer none)) 45)) w2 := by
      have e : Below (w1.alloc (Obj.cells (Array.replicate m (Value.pointer none)) 45)).heap.size (w1.alloc (Obj.cells (Array.replicate m (Value.pointer none)) 45)) w2 := btn (by go_grown) hb2
      simpa using e
    have hs2 := hA1.lt
    have hs1 := hbw.size
    have ha := hA1.below (w' := w2.alloc (Obj.cells #[.int .i64 a, .int .i64 (m : Int), .int .i64 c, .int .i64 d, .pointer (some ⟨S, 0, none⟩), .pointer (some ⟨w1.heap.size + 1, 0, none⟩), .slice (some ⟨w1.heap.size, 0, none⟩) m m] 105)) (by go_grown)
    have t1 := heap_alloc_new w2 (Obj.cells #[.int .i64 a, .int .i64 (m : Int), .int .i64 c, .int .i64 d, .pointer (some ⟨S, 0, none⟩), .pointer (some ⟨w1.heap.size + 1, 0, none⟩), .slice (some ⟨w1.heap.size, 0, none⟩) m m] 105)
    have t2 : (w2.alloc (Obj.cells #[.int .i64 a, .int .i64 (m : Int), .int .i64 c, .int .i64 d, .pointer (some ⟨S, 0, none⟩), .pointer (some ⟨w1.heap.size + 1, 0, none⟩), .slice (some ⟨w1.heap.size, 0, none⟩) m m] 105)).heap[w1.heap.size]? = some (.cells (List.replicate m (Value.pointer none)).toArray 45 (0, 0)) := by
      have := heap_alloc_new w1 (Obj.cells (Array.replicate m (Value.pointer none)) 45)
      have hb := hb3.block w1.heap.size (by omega)
      have hbb := (show Below w2.heap.size w2 (w2.alloc (Obj.cells #[.int .i64 a, .int .i64 (m : Int), .int .i64 c, .int .i64 d, .pointer (some ⟨S, 0, none⟩), .pointer (some ⟨w1.heap.size + 1, 0, none⟩), .slice (some ⟨w1.heap.size, 0, none⟩) m m] 105)) by go_grown).block w1.heap.size (by omega)
      rw [hbb, hb, this]; simp
    have hb4 : Below w1.heap.size w1 w2 := btn (show Below w1.heap.size w1 (w1.alloc (Obj.cells (Array.replicate m (Value.pointer none)) 45)) by go_grown) (hb3.mono (by omega))
    have hbf : Below w.heap.size w (w2.alloc (Obj.cells #[.int .i64 a, .int .i64 (m : Int), .int .i64 c, .int .i64 d, .pointer (some ⟨S, 0, none⟩), .pointer (some ⟨w1.heap.size + 1, 0, none⟩), .slice (some ⟨w1.heap.size, 0, none⟩) m m] 105)) := btn hbw ((btn hb4 ((show Below w2.heap.size w2 _ by go_grown).mono hb4.size)).mono hbw.size)
    have FIN := Lib.hid (And.intro t1 (And.intro t2 (And.intro (as_new (w0 := w) (T := w2.heap.size) (L := w1.heap.size) ha (by omega) (by simp) (by simp; omega) (by omega) (by omega)) hbf)))
    clear p0 p1 p2 p3 hA hb2 hA1 hb3 ha t1 t2 hbf hb4
    go_wp2_with fail
    go_ret
    exact ⟨_, _, _, rfl, FIN.out.1, FIN.out.2.1, FIN.out.2.2.1, by omega, FIN.out.2.2.2⟩
set_option maxRecDepth 20000 in
set_option maxHeartbeats 1000000 in
theorem tab_none (S : Nat) (a b c d : Int) (hO : Hid (¬ Okay a b c d)) (B0 : Nat) (w : World) (hB : B0 ≤ w.heap.size) :
    Calls Try.prog 42 #[.agg #[.int .i64 a, .int .i64 b, .int .i64 c, .int .i64 d], .pointer (some ⟨S, 0, none⟩)] w fun e w' => ∃ T A L, e = .returned (.pointer (some ⟨T, 0, none⟩)) ∧ TAt w' T a b c d S A L 0 ∧ LAt w' L (List.replicate 0 (.pointer none)) ∧ AS (fun k => k < w.heap.size ∨ k = T ∨ k = L) B0 A w' 0 0 0 (.slice none 0 0) (.slice none 0 0) (.slice none 0 0) (.slice none 0 0) [] [] ∧ (w.heap.size ≤ T ∧ w.heap.size ≤ A ∧ w.heap.size ≤ L ∧ T ≠ A ∧ T ≠ L ∧ A ≠ L) ∧ Below w.heap.size w w' := by
  have hmk := fun w kl kc => run_make_cells Try.prog 103 45 (.pointer none) 1 8 Try.underlying103 (by kernel_rfl) kl kc 0 (by omega) (by omega) w
  have hcl : Value.cells (.pointer none) = #[.pointer none] := rfl
  simp only [hcl, Nat.mul_one, nils_cells] at hmk
  have hmk0 : ∀ (w : World) (kl kc : IntKind), (Instr.makeSlice 103 (.int kl 0) (.int kc 0)).run Try.prog w = .ok (.slice (some ⟨w.heap.size, 0, none⟩) 0 0) (w.alloc (.cells #[] 45)) := fun w kl kc => by have := hmk w kl kc; simpa using this
  clear hmk
  go_enter Try.func42, Try.ntmps42
  go_wp2_with fail
  refine (check_no a b c d _ hO).mono ?_
  rintro e w1 ⟨rfl, hb⟩
  obtain ⟨p0, p1, p2, p3, hbw⟩ : w1.cell? ⟨w.heap.size, 0, none⟩ = some (.int .i64 a) ∧ w1.cell? ⟨w.heap.size, 1, none⟩ = some (.int .i64 b) ∧ w1.cell? ⟨w.heap.size, 2, none⟩ = some (.int .i64 c) ∧ w1.cell? ⟨w.heap.size, 3, none⟩ = some (.int .i64 d) ∧ Below w.heap.size w w1 :=
    keep4 hb
  clear hb
  go_wp2_with fail
  go_region_held3 (fun w' => Below w1.heap.size w1 w' ∧ w'.cell? ⟨w.heap.size, 0, none⟩ = some (.int .i64 a) ∧ w'.cell? ⟨w.heap.size, 1, none⟩ = some (.int .i64 b) ∧ w'.cell? ⟨w.heap.size, 2, none⟩ = some (.int .i64 c) ∧ w'.cell? ⟨w.heap.size, 3, none⟩ = some (.int .i64 d)) (first | (with_reducible assumption) | exact ⟨Below.refl _ _, p0, p1, p2, p3⟩ | (refine keepB ⟨Below.refl _ _, p0, p1, p2, p3⟩ ?_; go_grown; done) | (refine keepB (by with_reducible assumption) ?_; first | (with_reducible assumption) | (go_grown; done)))
    (first | (go_at_call 57; refine (new_of (fun _ => False) B0 0 0 0 _ (by decide) (by decide) (Nat.le_trans hB (Nat.le_trans hbw.size (by simp))) (fun _ h => h.elim)).mono ?_; rintro e w2 ⟨rfl, hA, hb2⟩))
  · have hA1 : AS (fun _ => False) B0 w1.heap.size w2 0 0 0 (.slice none 0 0) (.slice none 0 0) (.slice none 0 0) (.slice none 0 0) [] [] := hA
    have hb3 : Below w1.heap.size w1 w2 := btn (by go_grown) hb2
    have hs2 := hA1.lt
    have hs1 := hbw.size
    have ha := hA1.below (w' := (w2.alloc (Obj.cells #[] 45)).alloc (Obj.cells #[.int .i64 a, .int .i64 b, .int .i64 c, .int .i64 d, .pointer (some ⟨S, 0, none⟩), .pointer (some ⟨w1.heap.size, 0, none⟩), .slice (some ⟨w2.heap.size, 0, none⟩) 0 0] 105)) (by go_grown)
    have t1 := heap_alloc_new (w2.alloc (Obj.cells #[] 45)) (Obj.cells #[.int .i64 a, .int .i64 b, .int .i64 c, .int .i64 d, .pointer (some ⟨S, 0, none⟩), .pointer (some ⟨w1.heap.size, 0, none⟩), .slice (some ⟨w2.heap.size, 0, none⟩) 0 0] 105)
    rw [World.size_alloc] at t1
    have t2 : ((w2.alloc (Obj.cells #[] 45)).alloc (Obj.cells #[.int .i64 a, .int .i64 b, .int .i64 c, .int .i64 d, .pointer (some ⟨S, 0, none⟩), .pointer (some ⟨w1.heap.size, 0, none⟩), .slice (some ⟨w2.heap.size, 0, none⟩) 0 0] 105)).heap[w2.heap.size]? = some (.cells (List.replicate 0 (Value.pointer none)).toArray 45 (0, 0)) := by
      have := heap_alloc_new w2 (Obj.cells #[] 45)
      have hb := (show Below (w2.alloc (Obj.cells #[] 45)).heap.size (w2.alloc (Obj.cells #[] 45)) ((w2.alloc (Obj.cells #[] 45)).alloc (Obj.cells #[.int .i64 a, .int .i64 b, .int .i64 c, .int .i64 d, .pointer (some ⟨S, 0, none⟩), .pointer (some ⟨w1.heap.size, 0, none⟩), .slice (some ⟨w2.heap.size, 0, none⟩) 0 0] 105)) by go_grown).block w2.heap.size (by simp)
      rw [hb, this]; simp
    have hbf : Below w.heap.size w ((w2.alloc (Obj.cells #[] 45)).alloc (Obj.cells #[.int .i64 a, .int .i64 b, .int .i64 c, .int .i64 d, .pointer (some ⟨S, 0, none⟩), .pointer (some ⟨w1.heap.size, 0, none⟩), .slice (some ⟨w2.heap.size, 0, none⟩) 0 0] 105)) := btn hbw ((btn hb3 ((show Below w2.heap.size w2 _ by go_grown).mono hb3.size)).mono hbw.size)
    have FIN := Lib.hid (And.intro t1 (And.intro t2 (And.intro (as_new (w0 := w) (T := w2.heap.size + 1) (L := w2.heap.size) ha hbw.size (by simp) (by simp; omega) (by omega) (by omega)) hbf)))
    clear p0 p1 p2 p3 hA hb2 hA1 hb3 ha t1 t2 hbf
    go_wp2_with fail
    go_ret
    exact ⟨_, _, _, rfl, FIN.out.1, FIN.out.2.1, FIN.out.2.2.1, by omega, FIN.out.2.2.2⟩
  · have hA1 : AS (fun _ => False) B0 (w1.heap.size + 1) w2 0 0 0 (.slice none 0 0) (.slice none 0 0) (.slice none 0 0) (.slice none 0 0) [] [] := by simpa using hA
    have hb3 : Below (w1.heap.size + 1) (w1.alloc (Obj.cells #[] 45)) w2 := by
      have e : Below (w1.alloc (Obj.cells #[] 45)).heap.size (w1.alloc (Obj.cells #[] 45)) w2 := btn (by go_grown) hb2
      simpa using e
    have hs2 := hA1.lt
    have hs1 := hbw.size
    have ha := hA1.below (w' := w2.alloc (Obj.cells #[.int .i64 a, .int .i64 b, .int .i64 c, .int .i64 d, .pointer (some ⟨S, 0, none⟩), .pointer (some ⟨w1.heap.size + 1, 0, none⟩), .slice (some ⟨w1.heap.size, 0, none⟩) 0 0] 105)) (by go_grown)
    have t1 := heap_alloc_new w2 (Obj.cells #[.int .i64 a, .int .i64 b, .int .i64 c, .int .i64 d, .pointer (some ⟨S, 0, none⟩), .pointer (some ⟨w1.heap.size + 1, 0, none⟩), .slice (some ⟨w1.heap.size, 0, none⟩) 0 0] 105)
    have t2 : (w2.alloc (Obj.cells #[.int .i64 a, .int .i64 b, .int .i64 c, .int .i64 d, .pointer (some ⟨S, 0, none⟩), .pointer (some ⟨w1.heap.size + 1, 0, none⟩), .slice (some ⟨w1.heap.size, 0, none⟩) 0 0] 105)).heap[w1.heap.size]? = some (.cells (List.replicate 0 (Value.pointer none)).toArray 45 (0, 0)) := by
      have := heap_alloc_new w1 (Obj.cells #[] 45)
      have hb := hb3.block w1.heap.size (by omega)
      have hbb := (show Below w2.heap.size w2 (w2.alloc (Obj.cells #[.int .i64 a, .int .i64 b, .int .i64 c, .int .i64 d, .pointer (some ⟨S, 0, none⟩), .pointer (some ⟨w1.heap.size + 1, 0, none⟩), .slice (some ⟨w1.heap.size, 0, none⟩) 0 0] 105)) by go_grown).block w1.heap.size (by omega)
      rw [hbb, hb, this]; simp
    have hb4 : Below w1.heap.size w1 w2 := btn (show Below w1.heap.size w1 (w1.alloc (Obj.cells #[] 45)) by go_grown) (hb3.mono (by omega))
    have hbf : Below w.heap.size w (w2.alloc (Obj.cells #[.int .i64 a, .int .i64 b, .int .i64 c, .int .i64 d, .pointer (some ⟨S, 0, none⟩), .pointer (some ⟨w1.heap.size + 1, 0, none⟩), .slice (some ⟨w1.heap.size, 0, none⟩) 0 0] 105)) := btn hbw ((btn hb4 ((show Below w2.heap.size w2 _ by go_grown).mono hb4.size)).mono hbw.size)
    have FIN := Lib.hid (And.intro t1 (And.intro t2 (And.intro (as_new (w0 := w) (T := w2.heap.size) (L := w1.heap.size) ha (by omega) (by simp) (by simp; omega) (by omega) (by omega)) hbf)))
    clear p0 p1 p2 p3 hA hb2 hA1 hb3 ha t1 t2 hbf hb4
    go_wp2_with fail
    go_ret
    exact ⟨_, _, _, rfl, FIN.out.1, FIN.out.2.1, FIN.out.2.2.1, by omega, FIN.out.2.2.2⟩
end Go.Proofs.Ytbmndjedgedbdaa.fr
