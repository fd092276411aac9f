/- plain.Boxes. -/
import Derived.Test.YtafekaonmpkhiaaCy
set_option linter.unusedSimpArgs false
set_option linter.unusedVariables false
set_option maxRecDepth 100000
namespace Go.Proofs.Ytafekaonmpkhiaa
open Go.RowKit Go.Shelf Go.Deep Go.PlainAid

theorem range_rounds2 {P : Program} {g : Operand} {ps : Array Tmp} {assign body : Code} {Q : Exit → Act → World → Prop} {a : Act} {w : World} {n : Nat} (h1 : 1 ≤ n) {gf : Nat} {lb : Array Value}
    (hg : a.eval g = .func (.func gf) #[] lb) (eg : ∀ args w, (callFunc gf args).run P w = .ok (.enter gf args) w) {encs : Nat → Array Value} {N : Nat} (hps : ∀ k, (encs k).size = ps.size)
    {I : Nat → World → Prop} (hI : ∀ k, Stays w.heap.size (I k)) (h0 : I 0 w)
    (hseq : ∀ (l : Nat) (J : Nat → World → Prop) (W : World), (∀ k V, J k V → I k V) → (∀ k V o, J k V → J k (V.alloc o)) → (∀ k V, k < N → J k V → YieldAt Fence.wide (n - 1 - 1) P l (encs k) V fun e V' => e = .returned (.bool true) ∧ J (k + 1) V') → J 0 W →
      CallsIn Fence.wide (n - 1) P gf (#[.func (.yield l) #[] #[]] ++ lb) W fun e V => (∃ v, e = .returned v) ∧ J N V)
    (a1 : Nat → Nat → Act) {I2 : Nat → Nat → World → Prop} (hI2 : ∀ k D, Stays w.heap.size (I2 k D))
    (hassign : ∀ (l k : Nat) (V : World) (K : Act → World → Prop), k < N → I k V → (∀ D V', KeepsFrom w.heap.size V V' → I2 k D V' → K (a1 k D) V') → assign.wpIn (Fence.wide.inRound l) (n - 1 - 1) P (Exit.then K fun _ _ _ => False) { tmps := (ps.zip (encs k)).foldl (fun t (p, v) => t.setIfInBounds p v) a.tmps, defers := [] } V)
    (hbody : ∀ (l k D : Nat) (V : World), k < N → I2 k D V → body.wpIn (Fence.wide.inRound l) (n - 1 - 1) P (fun e _ V' => e = .normal ∧ KeepsFrom w.heap.size V V' ∧ I (k + 1) V') (a1 k D) V)
    (hdone : ∀ (D : Nat) (V : World), w.heap.size ≤ D → I N V → V.heap[D]? = some (.deferred (some [])) → Q .normal { a with defers := { target := .collected D, args := #[] } :: a.defers } V) :
    (Code.rangeFunc g ps assign body).wpIn Fence.wide n P Q a w := by
  refine wpIn_rangeFunc fun fn hfn => ?_
  obtain ⟨B, hB⟩ : ∃ B, B = w.heap.size := ⟨_, rfl⟩
  obtain ⟨R, hR⟩ : ∃ R : LoopState → Loop, R = fun st => { state := st, pending := none, fn, tmps := a.tmps, params := ps, assign, body, defers := B } := ⟨_, rfl⟩
  obtain ⟨W, hW⟩ : ∃ W, W = (w.alloc (.deferred (some []))).alloc (.loop (R .ready)) := ⟨_, rfl⟩
  have hl : W.heap[B + 1]? = some (.loop (R .ready)) := by
    rw [hW, hB]
    have := World.alloc_heap_new (w.alloc (.deferred (some []))) (.loop (R .ready))
    rwa [World.size_alloc] at this
  have hd : W.heap[B]? = some (.deferred (some [])) := by
    rw [hW, hB]
    exact (Below.heap_alloc _ _ _ (by simp)).trans (World.alloc_heap_new w _)
  have hi : I 0 W := by rw [hW]; exact (hI 0).lay _ _ ((hI 0).lay _ _ h0)
  refine ⟨B + 1, [{ target := .collected B, args := #[] }], W, { target := .fn (.func gf) lb, args := #[.func (.yield (B + 1)) #[] #[]] }, W, gf, #[.func (.yield (B + 1)) #[] #[]] ++ lb, W, ?_, ?_, fun _ _ => trivial, ?_, fun _ => h1, ?_⟩
  · rw [hW, hR, hB]; exact run_enterLoop_outer _ _ _ _ _
  · simp only [resolve, hg]
    simp [go_sem]
  · simp [invoke, go_sem, eg]
  refine (hseq (B + 1) (fun k V => I k V ∧ V.heap[B + 1]? = some (.loop (R .ready)) ∧ V.heap[B]? = some (.deferred (some []))) W (fun _ _ h => h.1) (fun k V o h => ⟨(hI k).lay _ _ h.1, (Below.heap_alloc _ _ _ (Array.getElem?_eq_some_iff.1 h.2.1).1).trans h.2.1, (Below.heap_alloc _ _ _ (Array.getElem?_eq_some_iff.1 h.2.2).1).trans h.2.2⟩) ?_ ⟨hi, hl, hd⟩).mono ?_
  · rintro k V hk ⟨hi, hl, hd⟩
    have hy := run_yield (P := P) (args := encs k) hl (by rw [hR]; exact hps k)
    rw [hR] at hy
    refine ⟨fn, _, assign, body, hy, roundIn_of_wpIn hfn (hassign _ k V _ hk hi ?_)⟩
    clear hy
    intro D V' hkv hi2
    replace hl := hkv.same _ _ (by omega) hl rfl
    replace hd := hkv.same _ _ (by omega) hd rfl
    clear hi hkv
    have hlt := (Array.getElem?_eq_some_iff.1 hl).1
    refine ⟨_, run_beginRound hl (by rw [hR]), ?_⟩
    have hl2 : (V'.putObj (B + 1) (.loop { R .ready with state := .busy })).heap[B + 1]? = some (.loop { R .ready with state := .busy }) := World.putObj_heap_same hlt
    have hd2 : (V'.putObj (B + 1) (.loop { R .ready with state := .busy })).heap[B]? = some (.deferred (some [])) := (World.putObj_heap_other (by omega)).trans hd
    refine wpIn_mono (hbody _ k D _ hk ((hI2 k D).turn _ _ _ _ hi2 (by omega) hl rfl)) ?_
    rintro e a3 V3 ⟨rfl, hk3, hi3⟩
    have hl3 := hk3.same _ _ (by omega) hl2 rfl
    have hd3 := hk3.same _ _ (by omega) hd2 rfl
    have he := run_endRound (P := P) none hl3
    rw [hR] at he
    refine ⟨_, _, he, rfl, (hI _).turn _ _ _ _ hi3 (by omega) hl3 rfl, ?_, (World.putObj_heap_other (by omega)).trans hd3⟩
    rw [World.putObj_heap_same (Array.getElem?_eq_some_iff.1 hl3).1, hR]
    rfl
  · rintro e V ⟨⟨v, rfl⟩, hi, hl, hd⟩
    have he := run_endLoop (P := P) hl (by rw [hR]; simp)
    rw [hR] at he
    exact ⟨none, _, he, hdone B _ (by omega) ((hI _).turn _ _ _ _ hi (by omega) hl rfl) ((World.putObj_heap_other (by omega)).trans hd)⟩

def rz8 : Code := Go.Code.region 8 #[{ dst := some 21, op := Go.Op.load 30 (Go.Operand.tmp 4), type := 30, pos := "audit.go:22", after := #[], guard := none }, { dst := some 22, op := Go.Op.load 4 (Go.Operand.tmp 8), type := 4, pos := "audit.go:22", after := #[{ on := 2, ground := Go.Ground.gcOnly Go.Departure.lateStores }], guard := none }, { dst := some 2, op := Go.Op.assign (Go.Operand.tmp 21), type := 30, pos := "audit.go:22", after := #[{ on := 0, ground := Go.Ground.data }, { on := 0, ground := Go.Ground.phase }, { on := 1, ground := Go.Ground.textOnly Go.Departure.lateStores }], guard := none }, { dst := some 3, op := Go.Op.assign (Go.Operand.tmp 22), type := 4, pos := "audit.go:22", after := #[{ on := 1, ground := Go.Ground.data }, { on := 2, ground := Go.Ground.chain }, { on := 0, ground := Go.Ground.phase }, { on := 1, ground := Go.Ground.phase }, { on := 2, ground := Go.Ground.phase }], guard := none }] true
set_option maxHeartbeats 8000000 in
theorem rz8_wp {wr : World} {df : List Deferred} {lb ob : Nat} {sv : Value} {Q : Exit → Act → World → Prop} {t0 t1 t2 t3 t5 t6 t7 t9 t10 t11 t12 t13 t14 t15 t16 t17 t18 t19 t20 t21 t22 : Value} (h0 : wr.cell? ⟨lb, 0, none⟩ = some sv) (h1 : wr.cell? ⟨ob, 0, none⟩ = some (.bool true))
    (hQp : ∀ c a a' w, Q (.panic c) a w → Q (.panic c) a' w) (hQ : ∀ u21 u22, Q .normal ⟨#[t0, t1, sv, .bool true, .pointer (some ⟨lb, 0, none⟩), t5, t6, t7, .pointer (some ⟨ob, 0, none⟩), t9, t10, t11, t12, t13, t14, t15, t16, t17, t18, t19, t20, u21, u22], df⟩ (wr.drew)) :
    rz8.wp Try.prog Q ⟨#[t0, t1, t2, t3, .pointer (some ⟨lb, 0, none⟩), t5, t6, t7, .pointer (some ⟨ob, 0, none⟩), t9, t10, t11, t12, t13, t14, t15, t16, t17, t18, t19, t20, t21, t22], df⟩ wr := by
  have HP : Hid (∀ c a a' w, Q (.panic c) a w → Q (.panic c) a' w) := hQp
  have HQ : Hid (∀ u21 u22, Q .normal ⟨#[t0, t1, sv, .bool true, .pointer (some ⟨lb, 0, none⟩), t5, t6, t7, .pointer (some ⟨ob, 0, none⟩), t9, t10, t11, t12, t13, t14, t15, t16, t17, t18, t19, t20, u21, u22], df⟩ (wr.drew)) := hQ
  clear hQ hQp
  have KP0 : Hid (wr.drew.cell? ⟨lb, 0, none⟩ = some sv ∧ wr.drew.cell? ⟨ob, 0, none⟩ = some (.bool true)) := ⟨h0, h1⟩
  clear h0 h1
  unfold rz8
  refine wp_region_noPanic ?_
  go_region_held3 (fun V => V.cell? ⟨lb, 0, none⟩ = some sv ∧ V.cell? ⟨ob, 0, none⟩ = some (.bool true))
    (first | exact KP0.out | fail)
    (first | fail)
  all_goals (refine NoPanic.normal ?_; exact HQ.out _ _)
/-- How the first round through the boxes stands. -/
structure IA (U V : World) (lb : Nat) (l : List Hd) (ns : List ByteArray) (k : Nat) (v : Value) : Prop where
  gr : U.grownBy V (some lb)
  lt : lb < U.heap.size
  h : IHolds V lb 30 [v]
  ow : V.ownsRow U.heap.size 38 4 v k (rowsB l (ns.take k))
theorem IA.lay {U V : World} {lb k : Nat} {l : List Hd} {ns : List ByteArray} {v : Value} (h : IA U V lb l ns k v) (o : Obj) : IA U (V.alloc o) lb l ns k v :=
  ⟨gtrans h.gr (World.grownBy_alloc _ _ _), h.lt, h.h.alloc _, h.ow.alloc _⟩
theorem IA.turn {U V : World} {lb k : Nat} {l : List Hd} {ns : List ByteArray} {v : Value} (h : IA U V lb l ns k v) {l' : Nat} {o o' : Obj} (hl : U.heap.size ≤ l') (hk : V.heap[l']? = some o) (ho : o.isCells = false) : IA U (V.putObj l' o') lb l ns k v := by
  have hlt := h.lt
  refine ⟨⟨h.gr.os, h.gr.tape, h.gr.output, by have := h.gr.size; simpa [World.putObj] using this, fun i hi hn => (World.putObj_heap_other (by omega)).trans (h.gr.block i hi hn)⟩, h.lt, (World.putObj_heap_other (by omega)).trans h.h, own_far h.ow fun g hg => World.putObj_heap_other fun e => ?_⟩
  subst e
  rcases h.ow.2 with ⟨hn, -⟩ | ⟨g', cap, cur, hv, hbg, hc, rest⟩
  · rw [hn] at hg; cases hg
  · rw [hv] at hg; cases hg
    rw [hc] at hk; cases hk
    cases ho
end Go.Proofs.Ytafekaonmpkhiaa
