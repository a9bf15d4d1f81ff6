/- The program that was put together (layer 7): End. -/
import Derived.Test.YtdneblbaofhehaaBdH
import Derived.Laws.ResultCell
namespace Go.Proofs.Ytdneblbaofhehaa.bd
open Go.ChangeShapes Go.WideShapes Go.ChangeAt Go.RowKit Go.Maps
open Go.Proofs.Ytdneblbaofhehaa.ro
open Go.Proofs.Ytdneblbaofhehaa.pr
open Go.Proofs.Ytdneblbaofhehaa.ins (kb tr3)
attribute [local go_sem ↓] Go.wp_at_zero Go.wp_at_succ
set_option linter.unusedVariables false
set_option linter.unusedSimpArgs false
def allR : List Fn → List (List I4) → Option (List (List I4))
  | [], L => some L
  | x :: r, L => match ledR x.f x.ls x.cs with
    | none => none
    | some c => allR r (L ++ [c])
structure EI (w wr : World) (mem : Int) (v : Value) (rows : List Value) (L : List (List I4)) : Prop where
  r0 : wr.heap[w.heap.size]? = some (.cells #[.int .i64 0, .slice none 0 0] 38 (0, 0))
  r1 : wr.heap[w.heap.size + 1]? = some (.cells #[.int .i64 mem, v] 38 (0, 0))
  p : OP wr (w.heap.size + 1 + 1) v rows L
  b : Below w.heap.size w wr
theorem EI.below {w wr wr' : World} {mem : Int} {v : Value} {rows : List Value} {L : List (List I4)} (h : EI w wr mem v rows L) (hb : Below wr.heap.size wr wr') : EI w wr' mem v rows L :=
  ⟨kb h.r0 hb, kb h.r1 hb, h.p.below hb, tr3 h.b hb⟩
theorem OR.monoI {w : World} {B B' e : Nat} {u : Value} {xs : List I4} (h : OR 4 enI w B e u xs) (hb : B' ≤ B) : OR 4 enI w B' e u xs := by
  obtain ⟨h1, h2 | ⟨g', cap', cur', h2, h3, h4⟩⟩ := h
  · exact ⟨h1, .inl h2⟩
  · exact ⟨h1, .inr ⟨g', cap', cur', h2, by omega, h4⟩⟩
theorem OP.setB {w : World} {B : Nat} {v : Value} {rows : List Value} {L : List (List I4)} (h : OP w B v rows L) {a : Addr} (ha : a.block < B) (u : Value) : OP (w.setCell a u) B v rows L :=
  ⟨ownsRow_setCell_below h.1 ha u, fun i hi => by
    obtain ⟨u', hu, ho⟩ := h.2 i hi
    exact ⟨u', hu, ownsRow_setCell_below ho ha u⟩⟩
/-- a function more. -/
theorem EI.more {w wr w' : World} {mem : Int} {v v' : Value} {rows rows' : List Value} {L L' : List (List I4)} (h : EI w wr mem v rows L) (hs : w.heap.size + 1 + 1 ≤ wr.heap.size) (hg : wr.grownBy w' v.ownBlock) (hp : OP w' (w.heap.size + 1 + 1) v' rows' L') : w'.cell? ⟨w.heap.size + 1, 1, none⟩ = some v ∧ w'.frozen? ⟨w.heap.size + 1, 1, none⟩ = false ∧ EI w (w'.setCell ⟨w.heap.size + 1, 1, none⟩ v') mem v' rows' L' := by
  have hne : ∀ q, q < w.heap.size + 1 + 1 → some q ≠ v.ownBlock := fun q hq e => by
    have := (own_ltP h.p.1 q e.symm).1
    omega
  have e0 := (hg.block _ (ro.lt_of h.r0) (hne _ (by omega))).trans h.r0
  have e1 := (hg.block _ (ro.lt_of h.r1) (hne _ (by omega))).trans h.r1
  have hb : Below w.heap.size w w' := h.b.trans ⟨hg.os, hg.tape, hg.output, hg.size, fun q hq => hg.block q (by have := h.b.size; omega) (hne _ (by omega))⟩
  refine ⟨ro.cel e1 1, ro.frz e1 1, ⟨?_, ?_, OP.setB hp (by show w.heap.size + 1 < _; omega) _, Below.setCell hb (by show _ ≤ w.heap.size + 1; omega) _⟩⟩
  · rw [ro.set_oth _ _ _ _ _ (by omega)]
    exact e0
  · rw [ro.set_blk w' _ 1 v' e1]
    rfl
def EndP (w : World) (mem : Int) (R : Option (List (List I4))) (e : Ending) (w' : World) : Prop := Below w.heap.size w w' ∧ match R with
  | none => e = .returned (.tuple #[.agg #[.int .i64 0, .slice none 0 0], .int .i64 7])
  | some L => if prE mem L = 0 then ∃ v rows, e = .returned (.tuple #[.agg #[.int .i64 mem, v], .int .i64 0]) ∧ OP w' (w.heap.size + 1 + 1) v rows L else e = .returned (.tuple #[.agg #[.int .i64 0, .slice none 0 0], .int .i64 (prE mem L)])
theorem two (w : World) (o1 o2 : Obj) : ((w.alloc o1).alloc o2).heap[w.heap.size]? = some o1 ∧ ((w.alloc o1).alloc o2).heap[w.heap.size + 1]? = some o2 := by
  refine ⟨?_, ?_⟩
  · show ((w.heap.push _).push _)[w.heap.size]? = _
    simp only [Array.getElem?_push, Array.size_push]
    rw [if_neg (by omega), if_pos trivial]
  · show ((w.heap.push _).push _)[w.heap.size + 1]? = _
    simp only [Array.getElem?_push, Array.size_push]
    rw [if_pos trivial]
/-- what is asked of a function's lengths and leaps. -/
def FOk (x : Fn) : Prop := x.cs.length ≤ 100000 ∧ x.ls.length ≤ 100000 ∧ ∀ (i : Nat) (l : Int × ByteArray), x.ls[i]? = some l → ∃ a : Nat, l.1 = (a : Int) ∧ a < x.cs.length ∧ l.2.size ≤ 1000
set_option maxRecDepth 20000 in
set_option maxHeartbeats 2000000 in
theorem end_v {w0 w : World} {ρ : Ro} {Bb : Nat} {mem : Int} {fv : Value} {fs : List Fn} (h : BS w0 w ρ Bb mem fv fs) (hl : fs.length ≤ 1000) (hA : ∀ (j : Nat) (x : Fn), fs[j]? = some x → FOk x) (R : Option (List (List I4))) (hR : allR fs [] = R) :
    Calls Try.prog 11 #[.pointer (some ⟨Bb, 0, none⟩)] w (EndP w mem R) := by
  obtain ⟨c0, c1, cf⟩ := h.cells
  obtain ⟨a, cp, hfv, _, _⟩ := h.row
  subst hfv
  have hBs : Bb < w.heap.size := ro.lt_of h.o
  have H := Lib.hid h
  have HA := Lib.hid hA
  have HR := Lib.hid hR
  obtain ⟨n, hn⟩ : ∃ n, fs.length = n := ⟨_, rfl⟩
  rw [hn] at H c1 hl
  have HN := Lib.hid hn
  clear h hA hR hn cf
  go_enter Try.func11, Try.ntmps11
  go_wp2_with fail
  go_loopw [23] (fun i wr => ∃ k : Nat, i = .int .i64 (k : Int) ∧ k ≤ n ∧ Hid (∃ v rows L, allR (fs.drop k) L = R ∧ L.length = k ∧ EI w wr mem v rows L)) (fun i _ => n - (intOf i).toNat)
  case atStart => exact ⟨0, rfl, by omega, Lib.hid ⟨.slice none 0 0, [], [], by rw [List.drop_zero]; exact HR.out, rfl, (two w _ _).1, (two w _ _).2, OP.nil _ _, by go_grown⟩⟩
  case round =>
    clear c0 c1
    obtain ⟨k, rfl, hk, HI⟩ := hrel
    obtain ⟨v, rows, L, hi1, hi2, hE⟩ := HI.out
    by_cases hlt : k < n
    · have hk2 : k < fs.length := by have := HN.out; omega
      obtain ⟨x, hx⟩ : ∃ x, fs[k]? = some x := ⟨_, List.getElem?_eq_getElem hk2⟩
      have hB := H.out.below hE.b
      obtain ⟨a', cp', hfv', _, hrow⟩ := hB.row
      obtain ⟨g, ha', hcell⟩ := hrow k x hx
      simp only [Value.slice.injEq] at hfv'
      obtain ⟨rfl, hnn, rfl⟩ := hfv'
      clear hnn
      subst ha'
      obtain ⟨q, hq⟩ : ∃ q, ledR x.f x.ls x.cs = q := ⟨_, rfl⟩
      have HLd := Lib.hid (led_v (hB.fn k x hx) (HA.out k x hx).1 (HA.out k x hx).2.1 (HA.out k x hx).2.2 q hq)
      have hd : fs.drop k = x :: fs.drop (k + 1) := by
        rw [List.drop_eq_getElem_cons hk2]
        congr 1
        rw [List.getElem?_eq_getElem hk2] at hx
        exact Option.some.inj hx
      rw [hd, allR, hq] at hi1
      have HI1 := Lib.hid hi1
      have HI2 := Lib.hid hi2
      have HE := Lib.hid hE
      have hplI : (k : Int) < (n : Int) := by omega
      clear hi1 hi2 hE hx hB hrow hq hd HI
      go_wp2_with fail
      refine HLd.out.mono ?_
      rintro e w5 ⟨hb5, hm⟩
      have hE5 := HE.out.below hb5
      have hs5 := ro.lt_of hE5.r1
      cases q with
      | none =>
        obtain rfl : e = .returned (.tuple #[.slice none 0 0, .int .i64 7]) := hm
        have HRN : Hid (R = none) := Lib.hid HI1.out.symm
        have b0 : w5.cell? ⟨w.heap.size, 0, none⟩ = some (.int .i64 0) := ro.cel hE5.r0 0
        have b1 : w5.cell? ⟨w.heap.size, 1, none⟩ = some (.slice none 0 0) := ro.cel hE5.r0 1
        have z0 : w5.frozen? ⟨w.heap.size, 0, none⟩ = false := ro.frz hE5.r0 0
        have z1 : w5.frozen? ⟨w.heap.size, 1, none⟩ = false := ro.frz hE5.r0 1
        have HB5 := Lib.hid hE5.b
        clear hE5 hb5 HE HI1 HI2 HLd hcell
        go_wp2_with fail
        (try simp only [Exit.inBlock, Exit.then])
        refine bodyPost_ret (v := .tuple #[.agg #[.int .i64 0, .slice none 0 0], .int .i64 7]) ?_ rfl ⟨?_, ?_⟩
        · rw [results_cell_tmp rfl]
          go_simp
        · refine Below.trans HB5.out ?_
          go_grown
        · rw [HRN.out]
          first | done | rfl
      | some c =>
        obtain ⟨u, rfl, ho⟩ : ∃ u, e = .returned (.tuple #[u, .int .i64 0]) ∧ OR 4 enI w5 wr.heap.size 33 u c := hm
        have hi1 : allR (fs.drop (k + 1)) (L ++ [c]) = R := HI1.out
        have hsr := ro.lt_of HE.out.r1
        have HU : Hid (OR 4 enI w5 (w.heap.size + 1 + 1) 33 u c) := Lib.hid (OR.monoI ho (by omega))
        obtain ⟨ua, uc, rfl⟩ : ∃ ua uc, u = .slice ua c.length uc := OR.form ho
        obtain ⟨m, hm⟩ : ∃ m, c.length = m := ⟨_, rfl⟩
        rw [hm] at HU
        rw [hm]
        obtain ⟨va, vc, rfl, _, _⟩ := (OP.pm hE5.p).form
        rw [HI2.out] at hE5
        have HE5 := Lib.hid (hE5.below (wr' := w5.alloc (.cells #[.slice ua m uc] 50)) (by go_grown))
        have HUC : Hid ((w5.alloc (.cells #[.slice ua m uc] 50)).cell? ⟨w5.heap.size, 0, none⟩ = some (.slice ua m uc)) := Lib.hid (ro.cel (heap_new w5 (.cells #[.slice ua m uc] 50)) 0)
        have p1 : w5.cell? ⟨w.heap.size + 1, 1, none⟩ = some (.slice va k vc) := ro.cel hE5.r1 1
        have HI1' := Lib.hid hi1
        have HS5 : Hid (w.heap.size + 1 + 1 ≤ (w5.alloc (.cells #[.slice ua m uc] 50)).heap.size) := Lib.hid (by have := ro.lt_of HE5.out.r1; omega)
        clear hE5 hb5 HE HI1 HLd hcell ho hi1 hm
        go_wp2_with (at_builtin; refine wpList_appP rfl _ _ rfl (w.heap.size + 1 + 1) (.slice va k vc) rows L rfl ⟨w5.heap.size, 0, none⟩ 1 rfl (.slice ua m uc) c HE5.out.p HUC.out (OR.below HU.out (by go_grown)) rfl (by have := HI2.out; omega) HS5.out ?_)
        intro v' w6 hp hg hor
        obtain ⟨va', vm', vc', rfl⟩ : ∃ a n c, v' = .slice a n c := by
          obtain ⟨a2, c2, e2, _, _⟩ := (OP.pm hp).form
          exact ⟨a2, _, c2, e2⟩
        obtain ⟨p2, z2, hE7⟩ := HE5.out.more HS5.out hg hp
        have HE7 := Lib.hid hE7
        clear hp hg hor hE7 p1
        go_wp2_with fail
        go_roundw
        case rel => exact ⟨k + 1, by go_num, by omega, Lib.hid ⟨_, _, _, HI1'.out, by rw [List.length_append, HI2.out]; rfl, HE7.out⟩⟩
        case measure => simp [intOf]; omega
    · obtain rfl : k = n := by omega
      rw [← HN.out, List.drop_length] at hi1
      have HRN : Hid (R = some L) := Lib.hid hi1.symm
      have hpm := OP.pm hE.p
      obtain ⟨va, vc, rfl, _, _⟩ := hpm.form
      rw [hi2] at hpm hE
      have HCk := Lib.hid (check_v mem va k vc L _ wr hpm rfl)
      have HE := Lib.hid hE
      have p0 : wr.cell? ⟨w.heap.size + 1, 0, none⟩ = some (.int .i64 mem) := ro.cel hE.r1 0
      have p1 : wr.cell? ⟨w.heap.size + 1, 1, none⟩ = some (.slice va k vc) := ro.cel hE.r1 1
      clear hE hpm hi1 HI
      go_wp2_with fail
      refine HCk.out.mono ?_
      rintro e w5 ⟨rfl, hb5⟩
      have hE5 := HE.out.below hb5
      have b0 : w5.cell? ⟨w.heap.size, 0, none⟩ = some (.int .i64 0) := ro.cel hE5.r0 0
      have b1 : w5.cell? ⟨w.heap.size, 1, none⟩ = some (.slice none 0 0) := ro.cel hE5.r0 1
      have z0 : w5.frozen? ⟨w.heap.size, 0, none⟩ = false := ro.frz hE5.r0 0
      have z1 : w5.frozen? ⟨w.heap.size, 1, none⟩ = false := ro.frz hE5.r0 1
      have q0 : w5.cell? ⟨w.heap.size + 1, 0, none⟩ = some (.int .i64 mem) := ro.cel hE5.r1 0
      have q1 : w5.cell? ⟨w.heap.size + 1, 1, none⟩ = some (.slice va k vc) := ro.cel hE5.r1 1
      have HB5 := Lib.hid hE5.b
      have HP5 := Lib.hid hE5.p
      obtain ⟨r, hr⟩ : ∃ r, prE mem L = r := ⟨_, rfl⟩
      rw [hr]
      have HRR := Lib.hid hr
      clear hE5 hb5 HE HCk p0 p1 hr
      by_cases hr0 : r = 0
      · have hrb : (r != 0) = false := by rw [hr0]; rfl
        go_wp2_with fail
        (try simp only [Exit.inBlock, Exit.then])
        refine bodyPost_ret (v := .tuple #[.agg #[.int .i64 mem, .slice va k vc], .int .i64 0]) ?_ rfl ⟨?_, ?_⟩
        · rw [results_cell_tmp rfl]
          go_simp
        · refine Below.trans HB5.out ?_
          go_grown
        · rw [HRN.out]
          show if prE mem L = 0 then _ else _
          rw [if_pos (HRR.out.trans hr0)]
          exact ⟨_, rows, rfl, OP.setB (OP.setB HP5.out (by show w.heap.size < _; omega) _) (by show w.heap.size < _; omega) _⟩
      · have hrb : (r != 0) = true := by rw [bne_iff_ne]; exact hr0
        go_wp2_with fail
        (try simp only [Exit.inBlock, Exit.then])
        refine bodyPost_ret (v := .tuple #[.agg #[.int .i64 0, .slice none 0 0], .int .i64 r]) ?_ rfl ⟨?_, ?_⟩
        · rw [results_cell_tmp rfl]
          go_simp
        · refine Below.trans HB5.out ?_
          go_grown
        · rw [HRN.out]
          show if prE mem L = 0 then _ else _
          rw [if_neg (by rw [HRR.out]; exact hr0), HRR.out]
end Go.Proofs.Ytdneblbaofhehaa.bd
