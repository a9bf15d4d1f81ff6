/- An event has happened to a loop: all that has happened, in memory (layer 34). -/
import Derived.Test.YtgbeghaojkhiaaaTrE
import Derived.Test.YtgbeghaojkhiaaaGrE
namespace Go.Proofs.Ytgbeghaojkhiaaa.tr
open Go.ChangeShapes Go.WideShapes Go.ChangeAt Go.RowKit Go.Maps
open Go.Proofs.Ytgbeghaojkhiaaa.ro
set_option linter.unusedVariables false
set_option linter.unusedSimpArgs false
attribute [local go_sem ↓] Go.wp_at_zero Go.wp_at_succ
attribute [local go_sem] Oper.semAt_some
theorem three (w : World) (a b c : Obj) : (((w.alloc a).alloc b).alloc c).heap[w.heap.size]? = some a ∧ (((w.alloc a).alloc b).alloc c).heap[w.heap.size + 1]? = some b ∧ (((w.alloc a).alloc b).alloc c).heap[w.heap.size + 1 + 1]? = some c ∧ Below w.heap.size w (((w.alloc a).alloc b).alloc c) ∧ (((w.alloc a).alloc b).alloc c).heap.size = w.heap.size + 1 + 1 + 1 := by
  have s1 : (w.alloc a).heap.size = w.heap.size + 1 := by simp
  have s2 : ((w.alloc a).alloc b).heap.size = w.heap.size + 1 + 1 := by simp
  have b2 : Below (w.alloc a).heap.size (w.alloc a) (((w.alloc a).alloc b).alloc c) := by go_grown
  have b3 : Below ((w.alloc a).alloc b).heap.size ((w.alloc a).alloc b) (((w.alloc a).alloc b).alloc c) := by go_grown
  refine ⟨?_, ?_, ?_, by go_grown, by simp⟩
  · rw [b2.block _ (by omega)]; exact ro.heap_new w a
  · rw [b3.block _ (by omega), ← s1]; exact ro.heap_new (w.alloc a) b
  · rw [← s2]; exact ro.heap_new ((w.alloc a).alloc b) c
section
variable {w0 w : World} {ρ : Ro} {Mb : Nat} {xs : List LM} {j : Nat} {x : LM}
def TPost (w0 : World) (Mb : Nat) (xs : List LM) (j : Nat) (x : LM) (ev : I4) (e : Ending) (w' : World) : Prop :=
  e = .returned (.tuple #[]) ∧ ∃ ρ' y, Hid (TM w0 w' ρ' Mb (xs.set j y)) ∧ y.z = x.z ∧ y.s = tk x.s ev
theorem setI (l : List It) (i k : Nat) (y : It) : (l.set i y)[k]? = if k = i ∧ i < l.length then some y else l[k]? := by
  by_cases h : k = i
  · subst h
    by_cases h2 : k < l.length
    · rw [if_pos ⟨rfl, h2⟩, List.getElem?_set_self h2]
    · rw [if_neg (fun h => h2 h.2), List.getElem?_eq_none (by simp; omega), List.getElem?_eq_none (by omega)]
  · rw [if_neg (fun e => h e.1), List.getElem?_set_ne (fun e => h e.symm)]
/-- one iteration's cells are others now. -/
theorem TM.iter (h : TM w0 w ρ Mb xs) (hx : xs[j]? = some x) (hL : ∀ (i : Nat) (y : LM), xs[i]? = some y → y.s.its.length < 2000) {i b : Nat} (hi : i < x.s.its.length) (hb : x.ib[i]? = some b) {y : It} {w' : World} (hs : w'.heap.size = w.heap.size) (hos : w'.os = w.os ∧ w'.tape = w.tape ∧ w'.output = w.output) (h1 : w'.heap[b]? = some (.cells (itc y) 86 (0, 0))) (f : Nat)
    (h2 : w'.heap[x.B]? = some (.cells #[x.rv, .int .i64 (f : Int), .bool x.s.en] 57 (0, 0))) (h3 : ∀ k, k ≠ b → k ≠ x.B → w'.heap[k]? = w.heap[k]?) :
    TM w0 w' ρ Mb (xs.set j { x with s := { x.s with its := x.s.its.set i y, fin := f } }) := by
  have hf := h.fn j x hx
  have hy0 : x.s.its[i]? = some (x.s.its[i]'hi) := List.getElem?_eq_getElem hi
  have hbr := (hf.it i b _ hb hy0).2
  have hi2 := hL j x hx
  have hk : KX (fun d => d = 10 + 3 * j ∨ d = 12 + 3 * (2000 * j + i)) ρ ρ w w' := ⟨hos.1, hos.2.1, hos.2.2, by omega, fun d hd k hk e => ⟨e, h3 k (fun e2 => hd (.inr (by rw [← e, e2, hbr]))) (fun e2 => hd (.inl (by rw [← e, e2, hf.ro])))⟩⟩
  refine h.upd hx rfl rfl hL (hk.mono fun d hd => ?_) ⟨h2, hf.ro, hf.r.keep hk (by omega), by simp [hf.len], fun q b' y' hb' hy' => ?_⟩
  · rcases hd with h | h
    · exact .inl h
    · exact .inr (.inr ⟨i, by omega, h⟩)
  · rw [show ({ x with s := { x.s with its := x.s.its.set i y, fin := f } } : LM).s.its = x.s.its.set i y from rfl, setI] at hy'
    by_cases e : q = i
    · subst e
      rw [if_pos ⟨rfl, hi⟩] at hy'
      cases hy'
      obtain rfl : b' = b := by rw [hb] at hb'; exact (Option.some.inj hb').symm
      exact ⟨h1, hbr⟩
    · rw [if_neg (fun h => e h.1)] at hy'
      have := hf.it q b' y' hb' hy'
      have hq := (List.getElem?_eq_some_iff.1 hy').1
      exact hk.blk this.1 this.2 (by omega)
theorem drewN_heap (w : World) (q : Nat) : (w.drewN q).heap = w.heap := rfl
theorem tk5_v (h : TM w0 w ρ Mb xs) (hx : xs[j]? = some x) (hL : ∀ (i : Nat) (y : LM), xs[i]? = some y → y.s.its.length < 2000) (z i s : Int) :
    Calls Try.prog 23 #[.pointer (some ⟨x.B, 0, none⟩), .agg #[.int .i64 5, .int .i64 z, .int .i64 i, .int .i64 s]] w (TPost w0 Mb xs j x (5, z, i, s)) := by
  have hf := h.fn j x hx
  obtain ⟨a, cp, hrv, hnc, hcm, hit⟩ := hf.form
  have hb : Below w.heap.size w (w.alloc (.cells #[.int .i64 5, .int .i64 z, .int .i64 i, .int .i64 s] 45)) := by go_grown
  have hw := h.below hb
  obtain ⟨W, hW⟩ : ∃ W, w.alloc (.cells #[.int .i64 5, .int .i64 z, .int .i64 i, .int .i64 s] 45) = W := ⟨_, rfl⟩
  have hg := hw.fn j x hx
  have ho := hf.o
  rw [hrv] at ho
  refine (tk_5 x.B _ cp x.s.fin a z s x.s.en i w ho).mono ?_
  rintro e w' ⟨rfl, rfl⟩
  rw [hW] at hw hg ⊢
  refine ⟨rfl, ext ρ w.heap.size 1, { x with s := { x.s with en := true } }, Lib.hid ?_, rfl, rfl⟩
  have hs := KX.set (w := W) x.B 2 (.bool true) hg.ro
  refine hw.upd hx rfl rfl hL (hs.mono fun d hd => .inl hd) ⟨by rw [ro.set_blk W x.B 2 _ hg.o]; rfl, hg.ro, hg.r.keep hs (by omega), hg.len, fun q b y hb hy => ?_⟩
  have := hg.it q b y hb hy
  exact hs.blk this.1 this.2 (by omega)
theorem set5 {w : World} {b e : Nat} {c0 c1 c2 c3 c4 : Value} (h : w.heap[b]? = some (.cells #[c0, c1, c2, c3, c4] e (0, 0))) (i : Nat) (v : Value) : (w.setCell ⟨b, i, none⟩ v).heap[b]? = some (.cells (#[c0, c1, c2, c3, c4].set! i v) e (0, 0)) ∧ (w.setCell ⟨b, i, none⟩ v).heap.size = w.heap.size ∧ ∀ k, k ≠ b → (w.setCell ⟨b, i, none⟩ v).heap[k]? = w.heap[k]? :=
  ⟨ro.set_blk w b i v h, ro.set_size w b i v, fun k hk => ro.set_oth w b i k v hk⟩
/-- a node begins, an iteration finishes, goes on. -/
theorem tki_v (h : TM w0 w ρ Mb xs) (hx : xs[j]? = some x) (hL : ∀ (i : Nat) (y : LM), xs[i]? = some y → y.s.its.length < 2000) (hF : x.s.fin ≤ 100000) (k z : Int) (i : Nat) (s : Int) (hi : i < x.s.its.length) (k1 : k ≠ 1) (k5 : k ≠ 5) :
    Calls Try.prog 23 #[.pointer (some ⟨x.B, 0, none⟩), .agg #[.int .i64 k, .int .i64 z, .int .i64 (i : Int), .int .i64 s]] w (TPost w0 Mb xs j x (k, z, (i : Int), s)) := by
  have hf := h.fn j x hx
  obtain ⟨a, cp, hrv, hnc, hcm, hit⟩ := hf.form
  obtain ⟨g, b, rfl, e1, hT, hib, rb, rg, hgl⟩ := hit i hi
  have hb : Below w.heap.size w (w.alloc (.cells #[.int .i64 k, .int .i64 z, .int .i64 (i : Int), .int .i64 s] 45)) := by go_grown
  have ho := hf.o
  rw [hrv] at ho
  have hbB : b ≠ x.B := fun e => by have := hf.ro; rw [e] at rb; omega
  obtain ⟨y, hy⟩ : ∃ y, x.s.its.getD i it0 = y := ⟨_, rfl⟩
  rw [hy] at hT
  obtain ⟨s0, b1, b2, b3, b4⟩ := y
  simp only [itc] at hT
  have h8 : (i : Int) < (x.s.its.length : Int) := by omega
  have key : ∀ (q : Nat) (W w' : World) (y' : It) (f : Nat), W = (w.alloc (.cells #[.int .i64 k, .int .i64 z, .int .i64 (i : Int), .int .i64 s] 45)).drewN q → w'.heap.size = W.heap.size → (w'.os = W.os ∧ w'.tape = W.tape ∧ w'.output = W.output) → w'.heap[b]? = some (.cells (itc y') 86 (0, 0)) → w'.heap[x.B]? = some (.cells #[x.rv, .int .i64 (f : Int), .bool x.s.en] 57 (0, 0)) → (∀ n, n ≠ b → n ≠ x.B → w'.heap[n]? = W.heap[n]?) → tkI k s ⟨s0, b1, b2, b3, b4⟩ = y' → (if k = 4 then x.s.fin + 1 else x.s.fin) = f → TPost w0 Mb xs j x (k, z, (i : Int), s) (.returned (.tuple #[])) w' := by
    intro q W w' y' f hW hs hos h1 h2 h3 hty hff
    have hw := h.below (ghb hb q)
    rw [← hW] at hw
    refine ⟨rfl, _, { x with s := { x.s with its := x.s.its.set i y', fin := f } }, Lib.hid (hw.iter hx hL hi hib hs hos h1 f h2 h3), rfl, ?_⟩
    unfold tk
    simp only [k1, k5, if_false, Int.toNat_natCast, hy, hty, hff]
  have TW : ∀ q, ((w.alloc (.cells #[.int .i64 k, .int .i64 z, .int .i64 (i : Int), .int .i64 s] 45)).drewN q).heap[b]? = some (.cells #[.int .i64 s0, .bool b1, .bool b2, .bool b3, .bool b4] 86 (0, 0)) := fun q => ((ghb hb q).block b (lt_of hT)).trans hT
  have BW : ∀ q, ((w.alloc (.cells #[.int .i64 k, .int .i64 z, .int .i64 (i : Int), .int .i64 s] 45)).drewN q).heap[x.B]? = some (.cells #[.slice (some ⟨g, 0, none⟩) x.s.its.length cp, .int .i64 (x.s.fin : Int), .bool x.s.en] 57 (0, 0)) := fun q => ((ghb hb q).block x.B (lt_of ho)).trans ho
  by_cases k2 : k = 2
  · subst k2
    refine (tk_2 x.B _ cp x.s.fin _ z s x.s.en i g b s0 b1 b2 b3 b4 w ho rfl hi h8 e1 hT).mono ?_
    rintro e w' ⟨rfl, q, rfl⟩
    obtain ⟨p1, p2, p3⟩ := set5 (TW q) 1 (.bool true)
    exact key q _ _ ⟨s0, true, b2, b3, b4⟩ x.s.fin rfl p2 ⟨rfl, rfl, rfl⟩ p1 (by rw [p3 x.B (fun e => hbB e.symm), BW q, hrv]) (fun n h1 _ => p3 n h1) rfl rfl
  by_cases k4 : k = 4
  · subst k4
    refine (tk_4 x.B _ cp x.s.fin _ z s x.s.en i g b s0 b1 b2 b3 b4 w ho rfl hi hbB h8 e1 hT).mono ?_
    rintro e w' ⟨rfl, q, rfl⟩
    obtain ⟨p1, p2, p3⟩ := set5 (TW q) 4 (.bool true)
    obtain ⟨p4, p5, p6⟩ := set5 p1 3 (.bool true)
    have q1 := p6 x.B (fun e => hbB e.symm)
    rw [p3 x.B (fun e => hbB e.symm), BW q] at q1
    have q2 := ro.set_blk _ x.B 1 (.int .i64 (wrap64 ((x.s.fin : Int) + 1))) q1
    have hw : wrap64 ((x.s.fin : Int) + 1) = ((x.s.fin + 1 : Nat) : Int) := by rw [wrap64]; omega
    refine key q _ _ ⟨s0, b1, b2, true, true⟩ (x.s.fin + 1) rfl (by rw [ro.set_size, p5, p2]) ⟨rfl, rfl, rfl⟩ ((ro.set_oth _ _ _ _ _ hbB).trans p4) ?_ (fun n h1 h2 => by rw [ro.set_oth _ _ _ _ _ h2, p6 n h1, p3 n h1]) rfl rfl
    rw [q2, hw, hrv]
    rfl
  · have k3 : (k == 3) = decide (k = 3) := by by_cases h : k = 3 <;> simp [h]
    refine (tk_o x.B _ cp x.s.fin _ z k s x.s.en i g b s0 b1 b2 b3 b4 w ho rfl hi h8 e1 hT k1 (bF k1) (dF k1) k5 (bF k5) (dF k5) k2 (bF k2) (dF k2) k4 (bF k4) (dF k4)).mono ?_
    rintro e w' ⟨rfl, q, rfl⟩
    obtain ⟨p1, p2, p3⟩ := set5 (TW q) 0 (.int .i64 s)
    obtain ⟨p4, p5, p6⟩ := set5 p1 1 (.bool false)
    obtain ⟨p7, p8, p9⟩ := set5 p4 2 (.bool (k == 3))
    obtain ⟨r1, r2, r3⟩ := set5 p7 3 (.bool true)
    obtain ⟨r4, r5, r6⟩ := set5 r1 4 (.bool false)
    refine key q _ _ ⟨s, false, decide (k = 3), true, false⟩ x.s.fin rfl (by rw [r5, r2, p8, p5, p2]) ⟨rfl, rfl, rfl⟩ (r4.trans ?_) (by rw [r6 x.B (fun e => hbB e.symm), r3 x.B (fun e => hbB e.symm), p9 x.B (fun e => hbB e.symm), p6 x.B (fun e => hbB e.symm), p3 x.B (fun e => hbB e.symm), BW q, hrv]) (fun n h1 _ => by rw [r6 n h1, r3 n h1, p9 n h1, p6 n h1, p3 n h1]) (by unfold tkI; rw [if_neg k2, if_neg k4]) (by rw [if_neg k4])
    rw [k3]
    rfl
/-- an iteration starts. -/
theorem tk1_v (h : TM w0 w ρ Mb xs) (hx : xs[j]? = some x) (hL : ∀ (i : Nat) (y : LM), xs[i]? = some y → y.s.its.length < 1999) (z i s : Int) :
    Calls Try.prog 23 #[.pointer (some ⟨x.B, 0, none⟩), .agg #[.int .i64 1, .int .i64 z, .int .i64 i, .int .i64 s]] w (TPost w0 Mb xs j x (1, z, i, s)) := by
  have hf := h.fn j x hx
  have hxl := hL j x hx
  obtain ⟨a, cp, hrv, hnc, hcm, _⟩ := hf.form
  have hlen := hf.len
  obtain ⟨zz, B, rv, ib, sx⟩ := x
  obtain ⟨its, fin, en⟩ := sx
  simp only at hrv hnc hxl hlen
  subst hrv
  obtain ⟨n, hn⟩ : ∃ n, its.length = n := ⟨_, rfl⟩
  have ho := hf.o
  simp only at ho
  rw [hn] at ho hxl hnc hlen
  have c0 : w.cell? ⟨B, 0, none⟩ = some (.slice a n cp) := ro.cel ho 0
  have f0 := ro.frz ho 0
  have hb : Below w.heap.size w (w.alloc (.cells #[.int .i64 1, .int .i64 z, .int .i64 i, .int .i64 s] 45)) := by go_grown
  have d0 := kc c0 hb
  have ho' := (hb.block B (ro.lt_of ho)).trans ho
  have x0 := ro.frz ho' 0
  have HO : Hid (OR 1 enP w 0 87 (.slice a n cp) ib) := Lib.hid (by have := hf.r.o; rw [hn] at this; exact this)
  have H := Lib.hid h
  have HF := Lib.hid hf
  have HL := Lib.hid hL
  have HX := Lib.hid hx
  have HN := Lib.hid hn
  have HLEN := Lib.hid hlen
  have HXL := Lib.hid hxl
  clear h hf hL hx hn hlen hnc hcm hxl ho ho' hb
  go_enter Try.func23, Try.ntmps23
  go_wp2_with (at_builtin; refine wpList_appR (en := enP) rfl _ _ 55 87 (.pointer none) 8 rfl Try.underlying55 infoPt rfl (by decide) recP 0 _ ib rfl ⟨w.heap.size + 1 + 1, 0, none⟩ 1 rfl (w.heap.size + 1) ?own ?cell (by rw [HLEN.out]; have := HXL.out; omega) (Nat.zero_le _) ?_)
  case own => exact OR.below HO.out (by go_grown)
  case cell =>
    intro j u hu
    cases j with
    | zero =>
      simp [enP] at hu
      subst hu
      first | rfl | exact ro.cel (three w _ _ _).2.2.1 0
    | succ j => simp [enP] at hu
  intro v' w1 ho hg hor
  obtain ⟨t1, t2, t3, t4, t5⟩ := three w (Obj.cells #[.int .i64 1, .int .i64 z, .int .i64 i, .int .i64 s] 45) (Obj.cells #[.int .i64 0, .bool false, .bool false, .bool false, .bool false] 86) (Obj.cells #[.pointer (some ⟨w.heap.size + 1, 0, none⟩)] 87)
  obtain ⟨W3, hW3⟩ : ∃ W3, ((w.alloc (Obj.cells #[.int .i64 1, .int .i64 z, .int .i64 i, .int .i64 s] 45)).alloc (Obj.cells #[.int .i64 0, .bool false, .bool false, .bool false, .bool false] 86)).alloc (Obj.cells #[.pointer (some ⟨w.heap.size + 1, 0, none⟩)] 87) = W3 := ⟨_, rfl⟩
  rw [hW3] at t1 t2 t3 t4 t5 hg
  rw [← t5] at hor
  have HK : Hid (∃ ρ1 : Ro, (∀ k, k < w.heap.size → ρ1 k = ρ k) ∧ ρ1 (w.heap.size + 1) = 12 + 3 * (2000 * j + n) ∧ KX (fun _ => False) ρ ρ1 w W3) := Lib.hid ⟨fun b => if b < w.heap.size then ρ b else if b = w.heap.size + 1 then 12 + 3 * (2000 * j + n) else 1, fun k hk => if_pos hk, by
      show (if _ then _ else _) = _
      rw [if_neg (by omega), if_pos rfl], ⟨t4.os, t4.tape, t4.output, t4.size, fun d _ k hk e => ⟨by show (if _ then _ else _) = _; rw [if_pos hk]; exact e, t4.block k hk⟩⟩⟩
  obtain ⟨ρ1, k0, k1, hK⟩ := HK.out
  have h1 := H.out.keep hK (fun _ _ h => h)
  have hf1 := h1.fn j _ HX.out
  have hor1 : RR 1 enP W3 ρ1 (11 + 3 * j) 87 (.slice a n cp) ib := by have := hf1.r; simp only at this; rw [HN.out] at this; exact this
  obtain ⟨g1, g2⟩ := hor1.grown hg ho hor
  have bW := g2.blk hf1.o hf1.ro (by omega)
  have FW := g2.blk t2 k1 (by omega)
  have HB : Hid (TM w0 (w1.setCell ⟨B, 0, none⟩ v') (ext ρ1 W3.heap.size (11 + 3 * j)) Mb (xs.set j ⟨zz, B, v', ib ++ [w.heap.size + 1], ⟨its ++ [it0], fin, en⟩⟩)) := Lib.hid (by
    have hs := KX.set (w := w1) B 0 v' bW.2
    have hk := g2.to hs
    have hX := HXL.out
    refine h1.upd HX.out rfl rfl (fun i y hy => by have := HL.out i y hy; omega) (hk.mono fun d hd => by omega) ⟨by rw [ro.set_blk w1 B 0 v' bW.1]; rfl, bW.2, g1.keep hs (by omega), by simp [HN.out, HLEN.out], fun q b y hb hy => ?_⟩
    simp only at hb hy
    by_cases e : q < n
    · rw [List.getElem?_append_left (by rw [HLEN.out]; exact e)] at hb
      rw [List.getElem?_append_left (by rw [HN.out]; exact e)] at hy
      have := hf1.it q b y hb hy
      exact hk.blk this.1 this.2 (by omega)
    · rw [List.getElem?_append_right (by rw [HLEN.out]; omega), HLEN.out] at hb
      rw [List.getElem?_append_right (by rw [HN.out]; omega), HN.out] at hy
      have hq : q - n = 0 := by
        rcases Nat.eq_zero_or_pos (q - n) with h | h
        · exact h
        · rw [List.getElem?_eq_none (by simp; omega)] at hy; cases hy
      rw [hq] at hb hy
      cases hb
      cases hy
      obtain rfl : q = n := by omega
      exact hs.blk FW.1 FW.2 (by omega))
  have c0' : w1.cell? ⟨B, 0, none⟩ = some (.slice a n cp) := by have := ro.cel bW.1 0; simp only at this; rw [HN.out] at this; exact this
  have f0' : w1.frozen? ⟨B, 0, none⟩ = false := ro.frz bW.1 0
  obtain ⟨va, vc, hvf⟩ : ∃ va vc, v' = .slice va (n + 1) vc := by
    obtain ⟨a', c', e⟩ := OR.form ho
    exact ⟨a', c', by rw [e, List.length_append, HLEN.out]; rfl⟩
  subst hvf
  clear t1 t2 t3 t4 t5 hg hor HK k0 k1 hK h1 hor1 g1 g2 bW FW ho hW3 hf1 c0 f0 d0 x0
  go_wp2_with fail
  first | go_end0 | ((try simp only [Exit.inBlock, Exit.then]); refine bodyPost_ret (results_none rfl _ _ _) rfl ?_)
  exact ⟨rfl, _, _, HB.out, rfl, rfl⟩
end
end Go.Proofs.Ytgbeghaojkhiaaa.tr
