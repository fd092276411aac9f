/- The law, whatever is handed in; the witness's world. -/
import Derived.Test.YtkcnpcjogfhkbaaGreatDoorZ26
import Derived.Test.YtkcnpcjogfhkbaaGreatDoorZ29
set_option linter.unusedSimpArgs false
set_option linter.unusedVariables false
set_option maxRecDepth 100000
namespace Go.Proofs.YtkcnpcjogfhkbaaGreatDoor
open Go.RowKit Go.Deep Go.PlainAid

theorem wb_len2 {n : Nat} {L : List (List Int)} (hb : wb n L = 0) : L.length ≤ 4096 ∧ ∀ i (h : i < L.length), L[i].length = n := by
  unfold wb at hb
  split at hb
  · omega
  · split at hb
    · rename_i h1 h2
      exact ⟨by omega, fun i h => by have := List.all_eq_true.1 h2 _ (List.getElem_mem h); simpa using this⟩
    · omega
theorem SAt.keep {w V : World} {a : Option Addr} {os : List ByteArray} (h : F.SAt w a os) (hV : Below w.heap.size w V) : F.SAt V a os := fun i hi => by
  obtain ⟨b, o, e, hc⟩ := h i hi
  exact ⟨b, o, e, cell_keep hc hV⟩
theorem best_walk {w : World} {nm lt : ByteArray} {ca a : Option Addr} {n cc c : Nat} {r s m : Int} {L : List (List Int)} {os : List ByteArray} (hf : K.Fit lt nm os) (ho : F.SAt w ca os) (hn : os.length = n) (hs : LL w a L) (hT : F.Tabs w) (hS : F.Starts w) :
    Calls Tryz.prog 3 #[CV nm ca n cc r s m, .slice a L.length c, .string lt] w fun e w' => e = .returned (.bool true) ∧ Below w.heap.size w w' := by
  by_cases hw : wc n 4 1 = 0
  · by_cases hb : wb n L = 0
    · obtain ⟨n1, n2⟩ := (wc_fits hw).1
      obtain ⟨h9, hlen⟩ := wb_len2 hb
      refine law3_ok (P := pcM (fl L)) n1 n2 (fun i j _ _ => pcM_bound h9 i j) (fun W hW => ?_) (fun W hW => pairs4_ok hw hb (hs.of_below hW))
      exact elect4_ok (R := fun w' v => UB (pcM (fl L)) n w' v) hw hb (hs.of_below hW) (fun V hV => elected11 fun U hU => by
        have k : Below w.heap.size w U := (hW.trans (hV.mono hW.size)).trans (hU.mono (Nat.le_trans hW.size hV.size))
        exact unbeaten21 n1 n2 (hs.of_below k) hlen h9 hf (SAt.keep ho k) hn (hT.of_below k hT.size) (hS.of_below k hT.size))
    · exact law3_bad (z := wb n L) hb (fun W hW => elect4_b hw hb rfl (hs.of_below hW)) (fun W hW => pairs4_b hw hb rfl (hs.of_below hW))
  · have h2 : wc n 4 1 = 2 := by unfold wc at hw ⊢; split at hw <;> simp_all
    exact law3_bad (z := 2) (by decide) (fun W hW => elect4_w h2) (fun W hW => pairs4_w h2)
/-- The tables out of the row's list. -/
theorem tabs5 {W : World} {rest : List (String × DataW Unit)} (h : laidMet Tryz.prog (("hustings/fold.start", Rows.laid_hustings_fold_start) :: ("hustings/fold.orders", Rows.laid_hustings_fold_orders) :: ("hustings/fold.places", Rows.laid_hustings_fold_places) :: rest) W) (hs : W.ShapedOpen Tryz.prog) : F.Tabs W :=
  ⟨F.ord_cells h.tail, F.plc_cells h.tail.tail, F.three hs⟩
def flat1 : DataW Unit → List Value
  | .lit (.int k z) => [.int k z]
  | _ => []
def flat2 : DataW Unit → List Value
  | .agg l => l.flatMap flat1
  | d => flat1 d
def flat3 : DataW Unit → List Value
  | .agg l => l.flatMap flat2
  | d => flat2 d
def laidWorld (P : Program) (os : Os) : World :=
  { F.laidWorld P os with heap := ((F.laidWorld P os).heap.modify 1 (F.relaid (flat3 Rows.laid_unicode_utf8_first).toArray)).modify 2 (F.relaid (flat3 Rows.laid_unicode_utf8_acceptRanges).toArray) }
end Go.Proofs.YtkcnpcjogfhkbaaGreatDoor
