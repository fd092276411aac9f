/- Gates, gone through. -/
import Derived.Test.YtelfcapjegncfaaTa
set_option linter.unusedSimpArgs false
set_option linter.unusedVariables false
set_option maxRecDepth 100000
namespace Go.Proofs.Ytelfcapjegncfaa
open Go.RowKit Go.Deep Go.PlainAid

/-- A gate, crossed or not, on what is on the wires. -/
def swp (l : List Nat) (g : Nat × Nat) (c : Bool) : List Nat := (l.set g.1 (twX (l.getD g.1 0) (l.getD g.2 0) c)).set g.2 (twY (l.getD g.1 0) (l.getD g.2 0) c)
theorem swp_len (l : List Nat) (g : Nat × Nat) (c : Bool) : (swp l g c).length = l.length := by simp [swp]
theorem swp_false {l : List Nat} {g : Nat × Nat} (h1 : g.1 < l.length) (h2 : g.2 < l.length) : swp l g false = l := by
  unfold swp twX twY
  simp only [Bool.false_eq_true, if_false]
  rw [getD_at h1, getD_at h2]
  apply List.ext_getElem
  · simp
  · intro i hi1 hi2
    rw [List.getElem_set, List.getElem_set]
    split
    · rename_i e; subst e; rfl
    · split
      · rename_i e; subst e; rfl
      · rfl
/-- All gates, one behind the other. -/
def runP (gs : List (Nat × Nat)) (cs : List Bool) (l : List Nat) : List Nat := (gs.zip cs).foldl (fun l p => swp l p.1 p.2) l
theorem runP_len : ∀ (gs : List (Nat × Nat)) (cs : List Bool) (l : List Nat), (runP gs cs l).length = l.length
  | [], cs, l => rfl
  | g :: gs, [], l => rfl
  | g :: gs, c :: cs, l => by
    show (runP gs cs (swp l g c)).length = _
    rw [runP_len, swp_len]
theorem runP_cons (g : Nat × Nat) (gs : List (Nat × Nat)) (c : Bool) (cs : List Bool) (l : List Nat) : runP (g :: gs) (c :: cs) l = runP gs cs (swp l g c) := rfl
theorem runP_append {gs hs : List (Nat × Nat)} {cs ds : List Bool} {l : List Nat} (h : gs.length = cs.length) : runP (gs ++ hs) (cs ++ ds) l = runP hs ds (runP gs cs l) := by
  unfold runP
  rw [List.zip_append h, List.foldl_append]
theorem runP_take {gs : List (Nat × Nat)} {cs : List Bool} {l : List Nat} {i : Nat} (h1 : i < gs.length) (h2 : i < cs.length) : runP (gs.take (i + 1)) (cs.take (i + 1)) l = swp (runP (gs.take i) (cs.take i) l) gs[i] (cs.getD i false) := by
  rw [List.take_succ_eq_append_getElem h1, List.take_succ_eq_append_getElem h2, runP_append (by simp; omega)]
  have : cs.getD i false = cs[i] := by simp [List.getD_eq_getElem?_getD, h2]
  rw [this]
  rfl
theorem ivs_set (l : List Nat) (i x : Nat) : (ivs l).set i (.int .i64 (x : Int)) = ivs (l.set i x) := by simp [ivs, List.map_set]
end Go.Proofs.Ytelfcapjegncfaa
