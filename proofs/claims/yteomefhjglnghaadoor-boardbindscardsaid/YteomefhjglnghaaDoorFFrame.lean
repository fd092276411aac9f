/- The frame of the rows: an array of words as an argument; the program's tables out of a row's list; the worlds of the witnesses. -/
import Derived.Test.YteomefhjglnghaaDoorFEq
import Derived.Test.YteomefhjglnghaaDoorFPressPlain
import Derived.Test.YteomefhjglnghaaDoorCards
import Derived.Test.YteomefhjglnghaaDoorTie
import Derived.ProofKit
import Derived.OpenShut
import Derived.Deep.DeepHandedRow
import Derived.Lib.LaidTab
import Derived.Stop.LaidErr
set_option linter.unusedSimpArgs false
set_option linter.unusedVariables false
set_option maxRecDepth 100000
namespace Go.Proofs.YteomefhjglnghaaDoor.F
open Go.ChangeShapes Go.WideShapes Go.ChangeAt Go.RowKit

section
variable {H : Type} {enc : TypeId × Value → H} {P : Program} {w : World} {base : Nat} {spare : Nat → Bool} {held : Bool}

theorem mapM_all {α β : Type} {f : α → Option β} {g : α → β} : ∀ (l : List α), (∀ a ∈ l, f a = some (g a)) → l.mapM f = some (l.map g)
  | [], _ => by simp
  | a :: l, h => by
    rw [List.mapM_cons, h a (by simp), mapM_all l (fun b hb => h b (by simp [hb]))]
    rfl

/-- Words as data. -/
def wordsD (l : List UInt32) : DataW H := .agg (l.map fun x => .lit (.int .u32 (x.toNat : Int)))

theorem word_wf (x : UInt32) : (Lit.int .u32 (x.toNat : Int)).wf = true := by
  have := ult x
  simp [Lit.wf, IntKind.min, IntKind.max, IntKind.signed, IntKind.bits]
  omega

theorem shut_words {t e : TypeId} {n : Nat} (ht : P.underlying t = some (.array n e)) (he : P.underlying e = some (.int .u32)) (hce : P.cellsOf e = 1) (hct : P.cellsOf t = n) (l : List UInt32) (hl : l.length = n) :
    DataW.Trod enc P w base spare held t (.agg (arr l)) (wordsD l) [] := by
  refine ⟨2, ?_⟩
  have hm : ((List.range n).mapM fun i => DataW.trod enc P w base spare held 1 e (((arr l).toList.drop (i * 1)).take 1)) = some ((List.range n).map fun i => ((.lit (.int .u32 ((l.getD i 0).toNat : Int)) : DataW H), ([] : List MemPlace))) := by
    apply mapM_all
    intro i hi
    have hi' : i < l.length := by rw [hl]; simpa using hi
    have hc : ((arr l).toList.drop (i * 1)).take 1 = [U (l.getD i 0)] := by
      apply List.ext_getElem?
      intro j
      cases j with
      | zero => simp [arr, hi']
      | succ j => simp; omega
    rw [hc]
    simp [DataW.trod, he, word_wf]
  have hlen : (Value.agg (arr l)).cells.toList.length = P.cellsOf t := by
    simp [Value.cells, arr_size, hl, hct]
  have e1 : ((List.range n).map fun i => ((.lit (.int .u32 ((l.getD i 0).toNat : Int)) : DataW H), ([] : List MemPlace))).map (·.1) = l.map fun x => .lit (.int .u32 (x.toNat : Int)) := by
    apply List.ext_getElem?
    intro j
    by_cases hj : j < n
    · simp [hj, hl]
    · simp [hj, hl]
  have e2 : (((List.range n).map fun i => ((.lit (.int .u32 ((l.getD i 0).toNat : Int)) : DataW H), ([] : List MemPlace))).flatMap (·.2)) = [] := by simp
  unfold DataW.trod
  simp only [ht]
  rw [if_pos hlen]
  simp only [Value.cells, hce, hm, Option.map_some, e1, e2, wordsD]

theorem words_of_cells (cs : List Value) (h : ∀ i, i < cs.length → ∃ x : UInt32, cs[i]? = some (U x)) : ∃ l : List UInt32, cs = l.map U := by
  induction cs with
  | nil => exact ⟨[], rfl⟩
  | cons c cs ih =>
    obtain ⟨x, hx⟩ := h 0 (by simp)
    obtain ⟨l, rfl⟩ := ih (fun i hi => by have := h (i + 1) (by simpa using hi); simpa using this)
    simp at hx
    exact ⟨x :: l, by simp [hx]⟩

theorem open_words {r : Reach} {b0 : Nat} {t e : TypeId} {n : Nat} {v : Value} {d : DataW H} {p : List MemPlace} (ht : P.underlying t = some (.array n e)) (he : P.underlying e = some (.int .u32)) (hce : P.cellsOf e = 1) (hct : P.cellsOf t = n)
    (hv : Value.okWide P w r b0 t v) (h : DataW.Trod enc P w base spare held t v d p) :
    ∃ l : List UInt32, v = .agg (arr l) ∧ d = wordsD l ∧ p = [] ∧ l.length = n := by
  have hv' : ∃ cs, v = .agg cs ∧ cs.size = P.cellsOf t := by
    unfold Value.okWide at hv
    rw [ht] at hv
    obtain ⟨cs, h1, h2, _⟩ := hv
    exact ⟨cs, h1, h2⟩
  obtain ⟨cs, rfl, hsz⟩ := hv'
  have h0 := h
  obtain ⟨fuel, hf⟩ := h
  obtain ⟨xs, m, _, hx, hlen, hxl, hat⟩ := DataW.trod_array ht hf
  obtain ⟨l, hl⟩ := words_of_cells cs.toList (fun i hi => by
    have hin : i < n := by simpa [← hct, ← hsz] using hi
    have := hat i hin
    rw [List.getElem?_eq_getElem (by omega)] at this
    obtain ⟨z, hc, _, hwf⟩ := DataW.trod_int he this
    have hz : 0 ≤ z ∧ z ≤ 4294967295 := by
      simp [Lit.wf, IntKind.min, IntKind.max, IntKind.signed, IntKind.bits] at hwf
      omega
    refine ⟨UInt32.ofNat z.toNat, ?_⟩
    have h1 := congrArg (·[0]?) hc
    simp only [Value.cells, hce, Nat.mul_one] at h1
    have h2 : cs.toList[i]? = some (.int .u32 z) := by simpa [List.getElem?_take, List.getElem?_drop] using h1
    rw [h2]
    have h3 : ((UInt32.ofNat z.toNat).toNat : Int) = z := by
      rw [UInt32.toNat_ofNat']
      omega
    rw [U, h3])
  have hcs : cs = arr l := by
    unfold arr; rw [← hl]
  subst hcs
  have hll : l.length = n := by rw [← hct, ← hsz, arr_size]
  obtain ⟨f2, hs⟩ := shut_words (enc := enc) (w := w) (base := base) (spare := spare) (held := held) ht he hce hct l hll
  have hle1 := DataW.trod_le (Nat.le_max_left fuel f2) hf
  have hle2 := DataW.trod_le (Nat.le_max_right fuel f2) hs
  rw [hle1] at hle2
  simp only [Option.some.injEq, Prod.mk.injEq] at hle2
  exact ⟨l, rfl, hle2.1, hle2.2, hll⟩
end

/-- A call that turns nothing of what was there, and whose results read by themselves: the row's post. -/
theorem post_of_below {H : Type} {enc : TypeId × Value → H} {P : Program} {f : Func} {s : ChangeSpec} {handsOn : Bool} {W W' : World} {args : Array Value} {v : Value} {ds gs : List (DataW H)} {before pa pv : List MemPlace}
    (hb : Below W.heap.size W W') (hW : DataW.Whole enc P f.params.toList s.vars false W args.toList ds gs before)
    (hres : ∀ (b : Nat) (sp : Nat → Bool) (hd : Bool), DataW.TrodAll enc P W' b sp hd f.resultTypes.toList (v.resultList f.resultTypes.size) (s.fn H (ds ++ gs)).results [])
    (hargs : ∀ sp : Nat → Bool, (∀ p ∈ before, sp p.block = true) → DataW.TrodAll enc P W' 0 sp true f.params.toList args.toList (s.fn H (ds ++ gs)).args pa)
    (hvars : ∀ sp : Nat → Bool, (∀ p ∈ before, sp p.block = true) → DataW.TrodVars enc P W' sp s.vars (s.fn H (ds ++ gs)).vars pv)
    (hps : before = pa ++ pv)
    (hok : ∀ (j : Nat) (t : TypeId) (r : Value), f.resultTypes[j]? = some t → (v.resultList f.resultTypes.size)[j]? = some r → Value.okWide P W' .any 0 t r) :
    s.post enc P f false true handsOn false W args v W' := by
  have hlt := hW.lt
  have hold : ∀ p ∈ before, (fun b => decide (b < W.heap.size)) p.block = true := fun p hp => by simpa using hlt p hp
  have hz : W.noneFrozen before := by obtain ⟨_, _, _, _, _, hz, _⟩ := hW; exact hz
  refine ⟨ds, gs, before, [], pa, pv, hW, hres _ _ _, hargs _ hold, hvars _ hold, World.keptBut_mono (fun p hp => ⟨hp, Or.inr (by rw [hps, List.mem_append] at hp; exact hp)⟩) (hb.frame _), fun _ => ?_⟩
  refine ⟨hok, _, _, ([] ++ pa) ++ pv, ⟨[] ++ pa, pv, trodAll_append (hargs _ (fun _ _ => rfl)) (hres _ _ _), hvars _ (fun _ _ => rfl), rfl, fun b off hp => ?_, fun h => by cases h⟩, fun p hp _ => by rw [hps]; simpa using hp⟩
  have hp' : MemPlace.cell b off ∈ before := by rw [hps]; simpa using hp
  rw [hb.frozen (p := ⟨b, off, none⟩) (hlt _ hp')]
  exact hz b off hp'

/-! ### The tables -/
theorem gOrd : Tryd.prog.globalNamed "hustings/fold.orders" = some 1 := by kernel_rfl
theorem gPlc : Tryd.prog.globalNamed "hustings/fold.places" = some 2 := by kernel_rfl
theorem gSta : Tryd.prog.globalNamed "hustings/fold.start" = some 0 := by kernel_rfl
theorem gOrdType : (Tryd.prog.globals[1]?).map (·.type) = some 103 := by kernel_rfl
theorem gPlcType : (Tryd.prog.globals[2]?).map (·.type) = some 107 := by kernel_rfl
theorem gStaType : (Tryd.prog.globals[0]?).map (·.type) = some 72 := by kernel_rfl
theorem cells5 : Tryd.prog.cellsOf 5 = 1 := by kernel_rfl
theorem cells22 : Tryd.prog.cellsOf 71 = 1 := by kernel_rfl
theorem cells23 : Tryd.prog.cellsOf 74 = 16 := by kernel_rfl
theorem cells27 : Tryd.prog.cellsOf 72 = 8 := by kernel_rfl
theorem cells44 : Tryd.prog.cellsOf 102 = 16 := by kernel_rfl
theorem cells45 : Tryd.prog.cellsOf 103 = 160 := by kernel_rfl
theorem cells48 : Tryd.prog.cellsOf 106 = 4 := by kernel_rfl
theorem cells49 : Tryd.prog.cellsOf 107 = 32 := by kernel_rfl

/-- A table of rows, as data, holds its rows' numbers. -/
theorem cells_of_rows {P : Program} {w : World} {fuel : Nat} {t e e1 : TypeId} {n m : Nat} {k : IntKind} {cs : List Value} {p : List MemPlace} (rows : List (List Int))
    (ht : P.underlying t = some (.array n e)) (he : P.underlying e = some (.array m e1)) (he1 : P.underlying e1 = some (.int k)) (hc1 : P.cellsOf e1 = 1) (hce : P.cellsOf e = m)
    (h : DataW.trod (fun _ => ()) P w 0 (fun _ => true) false fuel t cs = some (.agg (rows.map fun z => Lib.tabData k z), p)) (r : Nat) (hr : r < n) :
    (cs.drop (r * m)).take m = (rows.getD r []).map fun z => Value.int k z := by
  obtain ⟨xs, q, _, hx, _, hxl, hat⟩ := DataW.trod_array ht h
  simp only [Prod.mk.injEq, DataW.agg.injEq] at hx
  have hlen : rows.length = n := by
    have := congrArg List.length hx.1
    simp at this
    omega
  have h1 := hat r hr
  rw [hce, List.getElem?_eq_getElem (by omega)] at h1
  have h2 : (xs[r]).1 = Lib.tabData k (rows.getD r []) := by
    have := congrArg (·[r]?) hx.1
    simp [show r < xs.length by omega, show r < rows.length by omega] at this
    simp [show r < rows.length by omega, ← this]
  have h3 : DataW.trod (fun _ => ()) P w 0 (fun _ => true) false q e ((cs.drop (r * m)).take m) = some (Lib.tabData k (rows.getD r []), (xs[r]).2) := by
    rw [h1, ← h2]
  exact Lib.cells_of_tab he he1 hc1 hce h3

def ordRows : List (List Int) := (List.range 10).map fun r => ((ordL.drop (r * 16)).take 16).map fun (n : Nat) => (n : Int)
def plcRows : List (List Int) := (List.range 8).map fun r => ((plcL.drop (r * 4)).take 4).map fun (n : Nat) => (n : Int)
theorem ordRows_data : (Rows.laid_hustings_fold_orders : DataW Unit) = .agg (ordRows.map fun z => Lib.tabData .u8 z) := by kernel_rfl
theorem plcRows_data : (Rows.laid_hustings_fold_places : DataW Unit) = .agg (plcRows.map fun z => Lib.tabData .u8 z) := by kernel_rfl

theorem take_drop_get {α : Type} (cs : List α) (o m j : Nat) (hj : j < m) : ((cs.drop o).take m)[j]? = cs[o + j]? := by
  simp [List.getElem?_take, List.getElem?_drop, hj]

theorem ord_cells {W : World} {rest : List (String × DataW Unit)} (h : laidMet Tryd.prog (("hustings/fold.orders", Rows.laid_hustings_fold_orders) :: rest) W) (i : Nat) (hi : i < 160) :
    W.cell? ⟨1, i, none⟩ = some (B8 (ordL.getD i 0)) := by
  obtain ⟨ps, ⟨g', t', cs, fuel, p, q, hg', ht', hvar, hd, _, _⟩, _⟩ := h
  obtain rfl := Option.some.inj (gOrd.symm.trans hg')
  obtain rfl := Option.some.inj (gOrdType.symm.trans ht')
  rw [ordRows_data] at hd
  have h1 := cells_of_rows ordRows Tryd.underlying103 Tryd.underlying102 Tryd.underlying5 cells5 cells44 hd (i / 16) (by omega)
  have h2 := congrArg (·[i % 16]?) h1
  rw [take_drop_get _ _ _ _ (by omega), show i / 16 * 16 + i % 16 = i by omega] at h2
  have h3 := World.var?_cell gOrd hvar i
  have hO : ∀ i, i < 160 → ((ordRows.getD (i / 16) []).map fun z => Value.int .u8 z)[i % 16]? = some (B8 (ordL.getD i 0)) := by
    intro i hi
    have hlen : ordL.length = 160 := by decide +kernel
    have a1 : ordRows.getD (i / 16) [] = ((ordL.drop (i / 16 * 16)).take 16).map fun (n : Nat) => (n : Int) := by
      simp [ordRows, show i / 16 < 10 by omega]
    rw [a1, List.map_map, List.getElem?_map, take_drop_get _ _ _ _ (by omega), show i / 16 * 16 + i % 16 = i by omega]
    simp [show i < ordL.length by omega]
  rw [hO i hi] at h2
  rw [h3]
  simpa using h2

theorem plc_cells {W : World} {rest : List (String × DataW Unit)} (h : laidMet Tryd.prog (("hustings/fold.places", Rows.laid_hustings_fold_places) :: rest) W) (i : Nat) (hi : i < 32) :
    W.cell? ⟨2, i, none⟩ = some (B8 (plcL.getD i 0)) := by
  obtain ⟨ps, ⟨g', t', cs, fuel, p, q, hg', ht', hvar, hd, _, _⟩, _⟩ := h
  obtain rfl := Option.some.inj (gPlc.symm.trans hg')
  obtain rfl := Option.some.inj (gPlcType.symm.trans ht')
  rw [plcRows_data] at hd
  have h1 := cells_of_rows plcRows Tryd.underlying107 Tryd.underlying106 Tryd.underlying5 cells5 cells48 hd (i / 4) (by omega)
  have h2 := congrArg (·[i % 4]?) h1
  rw [take_drop_get _ _ _ _ (by omega), show i / 4 * 4 + i % 4 = i by omega] at h2
  have h3 := World.var?_cell gPlc hvar i
  have hO : ∀ i, i < 32 → ((plcRows.getD (i / 4) []).map fun z => Value.int .u8 z)[i % 4]? = some (B8 (plcL.getD i 0)) := by
    intro i hi
    have hlen : plcL.length = 32 := by decide +kernel
    have a1 : plcRows.getD (i / 4) [] = ((plcL.drop (i / 4 * 4)).take 4).map fun (n : Nat) => (n : Int) := by
      simp [plcRows, show i / 4 < 8 by omega]
    rw [a1, List.map_map, List.getElem?_map, take_drop_get _ _ _ _ (by omega), show i / 4 * 4 + i % 4 = i by omega]
    simp [show i < plcL.length by omega]
  rw [hO i hi] at h2
  rw [h3]
  simpa using h2

theorem three_size : Tryd.prog.globals.size = 3 := by kernel_rfl
theorem three_lt : 2 < Tryd.prog.globals.size := by rw [three_size]; omega
/-- Three blocks lie ahead of all: the program's variables. -/
theorem three {W : World} (h : W.ShapedOpen Tryd.prog) : 2 < W.heap.size := by
  obtain ⟨cs, hc, _⟩ := h.1 2 (Array.replicate 32 (.int .u8 0)) 107 three_lt (by kernel_rfl)
  exact (Array.getElem?_eq_some_iff.1 hc).1

theorem tabs2 {W : World} (h : laidMet Tryd.prog [("hustings/fold.orders", Rows.laid_hustings_fold_orders), ("hustings/fold.places", Rows.laid_hustings_fold_places)] W) (hs : W.ShapedOpen Tryd.prog) : Tabs W :=
  ⟨ord_cells h, plc_cells h.tail, three hs⟩
theorem tabs3 {W : World} (h : laidMet Tryd.prog [("hustings/fold.start", Rows.laid_hustings_fold_start), ("hustings/fold.orders", Rows.laid_hustings_fold_orders), ("hustings/fold.places", Rows.laid_hustings_fold_places)] W) (hs : W.ShapedOpen Tryd.prog) : Tabs W :=
  ⟨ord_cells h.tail, plc_cells h.tail.tail, three hs⟩

/-! ### The witnesses' world: the settled one, the tables holding what their initialisers lay -/
theorem own : ownKnob Tryd.prog.godebug = none := by kernel_rfl
def ordCells : Array Value := (ordL.map B8).toArray
def plcCells : Array Value := (plcL.map B8).toArray
def staCells : Array Value := #[.int .u32 1779033703, .int .u32 3144134277, .int .u32 1013904242, .int .u32 2773480762, .int .u32 1359893119, .int .u32 2600822924, .int .u32 528734635, .int .u32 1541459225]
/-- The cells of a block, and what it is made of, laid anew. -/
def relaid (C : Array Value) : Obj → Obj
  | .cells _ t frozen => .cells C t frozen
  | o => o
def laidWorld (P : Program) (os : Os) : World :=
  { World.holding P os ⟨#[], #[], []⟩ with heap := (((World.holding P os ⟨#[], #[], []⟩).heap.modify 1 (relaid ordCells)).modify 2 (relaid plcCells)).modify 0 (relaid staCells) }
def staZ : List Int := [1779033703, 3144134277, 1013904242, 2773480762, 1359893119, 2600822924, 528734635, 1541459225]
theorem sta_data : (Rows.laid_hustings_fold_start : DataW Unit) = Lib.tabData .u32 staZ := by kernel_rfl
theorem sta_get : ∀ i, i < 8 → staZ.getD i 0 = ((staL.getD i 0).toNat : Int) := by decide +kernel
theorem starts {W : World} {rest : List (String × DataW Unit)} (h : laidMet Tryd.prog (("hustings/fold.start", Rows.laid_hustings_fold_start) :: rest) W) : Starts W := by
  rw [sta_data] at h
  have hT := Lib.tabIs_of_head gSta gStaType Tryd.underlying72 Tryd.underlying71 cells22 cells27 h
  exact ⟨fun i hi => by rw [hT.cell gSta i hi, sta_get i hi]⟩

end Go.Proofs.YteomefhjglnghaaDoor.F
