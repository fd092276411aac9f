/- Sorting of the options; the options as they are drawn. Marks that are ranks: what the program asks of them and what the document does. Fits, and the document's, walked. -/
import Derived.Test.YtkcnpcjogfhkbaaGreatDoorZ14
import Derived.Test.YtkcnpcjogfhkbaaGreatDoorProg
import Derived.PlainAid
import Derived.Below
import Derived.Lib.ItoaNum
import Derived.Laws.AppendOwn
import Derived.Deep.MidRow
import Derived.Laws.IdiomCopy
import Derived.Deep.RegionWith
import Derived.Deep.RegionHeld
import Derived.WalkKit
import Derived.WalkSpells
import Derived.WalkLawsBesides
import Derived.Handy
import Derived.Deep.Draws
import Derived.Deep.QuietTactic
import Derived.BigQuiet
import Derived.Deep.LoopGhost
import Derived.Deep.OwnRows
set_option linter.unusedSimpArgs false
set_option linter.unusedVariables false
set_option maxRecDepth 100000
namespace Go.Proofs.YtkcnpcjogfhkbaaGreatDoor.K
open Go.RowKit Go.Deep Go.PlainAid Go.Sort Go.Shelf Go.Lib

theorem sw_cell (enc : Nat → Value) {w : World} {blk off m b o : Nat} {dk : Array Nat} {os : Array Obj} {u : Value} (h : w.cell? ⟨b, o, none⟩ = some u) (hne : b ≠ blk) : (sortWorld enc w blk off m dk os).cell? ⟨b, o, none⟩ = some u := by
  have hb := cell_lt h
  unfold sortWorld
  rw [cell?_grow _ _ _ (by simpa [putRow, mapBlock, ahead] using hb), cell?_putRow_other _ _ _ _ _ _ (Or.inl hne)]
  exact h
theorem below_put {w V : World} (enc : Nat → Value) {g off m : Nat} {d : Array Nat} (h : Below w.heap.size w V) (hg : w.heap.size ≤ g) : Below w.heap.size w ((putRow enc V g off d).drewN m) :=
  ⟨h.os, h.tape, h.output, by have := h.size; simpa [putRow, mapBlock, World.drewN] using this, fun k hk => by
    have e : ((putRow enc V g off d).drewN m).heap[k]? = V.heap[k]? := by
      show (V.heap.modify g _)[k]? = _
      rw [Array.getElem?_modify, if_neg (by omega)]
    rw [e]; exact h.block k hk⟩
set_option maxHeartbeats 1000000 in
theorem stable27 (enc : Nat → Value) (hO : OneCell enc) (cf : Nat → Nat → Int) (g : Nat) (cb : Array Value) (blk cap n : Nat) (d : Array Nat) (w : World) (eg : ∀ args w, (callFunc g args).run Tryz.prog w = .ok (.enter g args) w) (hcmp : CmpReads Tryz.prog g cb enc cf blk 0 d.size w) (hH : Holds enc w blk 0 d) (hn : d.size = n) (h12 : n ≤ 12) :
    Calls Tryz.prog 72 #[.slice (some ⟨blk, 0, none⟩) n cap, .int .i64 (n : Int), .func (.func g) #[] cb] w fun e w' => e = .returned (.tuple #[]) ∧ ∃ m, w' = (putRow enc w blk 0 (insertionSort (ltOf cf) d 0 n)).drewN m := by
  have q := ins36 enc hO cf g cb blk 0 cap 0 d.size d w eg hcmp hH (Nat.zero_le _) (Nat.le_refl _) (by omega)
  rw [hn] at q
  have H : Hid (Calls Tryz.prog 95 #[.slice (some ⟨blk, 0, none⟩) n cap, .int .i64 0, .int .i64 (n : Int), .func (.func g) #[] cb] w fun e w' => e = .returned (.tuple #[]) ∧ ∃ m, w' = (putRow enc w blk 0 (insertionSort (ltOf cf) d 0 n)).drewN m) := q
  clear q hH hcmp eg hO
  generalize insertionSort (ltOf cf) d 0 n = r at *
  have c1 : ¬ (20 : Int) ≤ (n : Int) := by omega
  have c2 : ¬ (20 : Int) < (n : Int) := by omega
  go_enter Tryz.func72, Tryz.ntmps72
  go_wp2_with fail
  go_loopg [7, 8] 1 (fun gk v7 v8 wr => gk = 1 ∧ v7 = .int .i64 0 ∧ v8 = .int .i64 20 ∧ wr = w)
  case atStart => exact ⟨rfl, rfl, rfl, rfl⟩
  case round =>
    obtain ⟨rfl, rfl, rfl, rfl⟩ := hrel
    go_wp2_with (go_at_call 95; refine H.out.mono ?_; rintro e w1 ⟨rfl, m, hw1⟩; have HW : Hid (w1 = (putRow enc wr blk 0 r).drewN m) := hw1; clear hw1 H)
    go_loopg [6, 7, 8, 9] 1 (fun gk v6 v7 v8 v9 wr2 => gk = 1 ∧ v6 = .int .i64 20 ∧ wr2 = w1)
    case atStart => exact ⟨rfl, rfl, rfl⟩
    case round =>
      obtain ⟨rfl, rfl, rfl⟩ := hrel
      go_wp2_with fail
      go_end0
      exact ⟨rfl, m, HW.out⟩
set_option maxHeartbeats 1000000 in
theorem sort19 (enc : Nat → Value) (hO : OneCell enc) (cf : Nat → Nat → Int) (g : Nat) (cb : Array Value) (blk cap n : Nat) (d : Array Nat) (w : World) (eg : ∀ args w, (callFunc g args).run Tryz.prog w = .ok (.enter g args) w) (hcmp : CmpReads Tryz.prog g cb enc cf blk 0 d.size w) (hH : Holds enc w blk 0 d) (hn : d.size = n) (h12 : n ≤ 12) :
    Calls Tryz.prog 50 #[.slice (some ⟨blk, 0, none⟩) n cap, .func (.func g) #[] cb] w fun e w' => e = .returned (.tuple #[]) ∧ ∃ m, w' = (putRow enc w blk 0 (insertionSort (ltOf cf) d 0 n)).drewN m := by
  have H : Hid (Calls Tryz.prog 72 #[.slice (some ⟨blk, 0, none⟩) n cap, .int .i64 (n : Int), .func (.func g) #[] cb] w fun e w' => e = .returned (.tuple #[]) ∧ ∃ m, w' = (putRow enc w blk 0 (insertionSort (ltOf cf) d 0 n)).drewN m) := stable27 enc hO cf g cb blk cap n d w eg hcmp hH hn h12
  clear hH hcmp eg hO
  generalize insertionSort (ltOf cf) d 0 n = r at *
  go_enter Tryz.func50, Tryz.ntmps50
  go_wp2_with (go_at_call 72; refine H.out.mono ?_; rintro e w1 ⟨rfl, m, hw1⟩; have HW : Hid (w1 = (putRow enc w blk 0 r).drewN m) := hw1; clear hw1 H)
  go_end0
  exact ⟨rfl, m, HW.out⟩
/-- An option as a value. -/
def encN (n : Nat) (x : Nat) : Value := .int .i64 ((x % n : Nat) : Int)
theorem encN_one (n : Nat) : OneCell (encN n) := fun x => rfl
set_option maxHeartbeats 1000000 in
theorem closure20 {V : World} {Bt gt n cap x y : Nat} {X Y : ByteArray} (hT : V.cell? ⟨Bt, 0, none⟩ = some (.slice (some ⟨gt, 0, none⟩) n cap)) (hx : x < n) (hy : y < n) (hX : V.cell? ⟨gt, x, none⟩ = some (.string X)) (hY : V.cell? ⟨gt, y, none⟩ = some (.string Y)) :
    Calls Tryz.prog 51 #[.int .i64 (x : Int), .int .i64 (y : Int), .pointer (some ⟨Bt, 0, none⟩)] V fun e w' => e = .returned (.int .i64 (cmpS X Y)) ∧ ∃ q, w' = V.drewN q := by
  have C : Hid (∀ W, Calls Tryz.prog 52 #[.string X, .string Y] W fun e w' => e = .returned (.int .i64 (cmpS X Y)) ∧ w' = W) := compare21 X Y
  have xl : (x : Int) < (n : Int) := by omega
  have yl : (y : Int) < (n : Int) := by omega
  generalize cmpS X Y = r at *
  go_enter Tryz.func51, Tryz.ntmps51
  go_wp2_with fail
  go_quiet (first | (go_at_call 52; exact Calls.quiet_of_same (C.out _)) | fail)
  have HQ : Hid (∃ q, World.drewN V nq = V.drewN q) := ⟨_, rfl⟩
  clear hT hX hY
  generalize World.drewN V nq = wq at *
  go_wp2_with fail
  go_ret
  exact ⟨rfl, HQ.out⟩
set_option maxHeartbeats 1000000 in
theorem closure31 {V : World} {Bf Bt bt ot n cap x y : Nat} {X Y : Int} (hF : V.cell? ⟨Bf, 0, none⟩ = some (.func (.func 54) #[] #[])) (hT : V.cell? ⟨Bt, 0, none⟩ = some (.slice (some ⟨bt, ot, none⟩) n cap)) (hx : x < n) (hy : y < n) (hX : V.cell? ⟨bt, ot + x, none⟩ = some (.int .i64 X)) (hY : V.cell? ⟨bt, ot + y, none⟩ = some (.int .i64 Y)) :
    Calls Tryz.prog 75 #[.int .i64 (x : Int), .int .i64 (y : Int), .pointer (some ⟨Bf, 0, none⟩), .pointer (some ⟨Bt, 0, none⟩)] V fun e w' => e = .returned (.int .i64 (cmpI Y X)) ∧ ∃ q, w' = V.drewN q := by
  have C : Hid (∀ W, Calls Tryz.prog 54 #[.int .i64 Y, .int .i64 X] W fun e w' => e = .returned (.int .i64 (cmpI Y X)) ∧ w' = W) := compare25 Y X
  have xl : (x : Int) < (n : Int) := by omega
  have yl : (y : Int) < (n : Int) := by omega
  generalize cmpI Y X = r at *
  go_enter Tryz.func75, Tryz.ntmps75
  go_wp2_with fail
  go_quiet (first | (go_at_call 54; exact Calls.quiet_of_same (C.out _)) | fail)
  have HQ : Hid (∃ q, World.drewN V nq = V.drewN q) := ⟨_, rfl⟩
  clear hT hX hY hF
  generalize World.drewN V nq = wq at *
  go_wp2_with fail
  go_ret
  exact ⟨rfl, HQ.out⟩
theorem takeWhile_same {f g : Nat → Bool} : ∀ {l : List Nat}, (∀ x ∈ l, f x = g x) → l.takeWhile f = l.takeWhile g ∧ l.dropWhile f = l.dropWhile g
  | [], _ => ⟨rfl, rfl⟩
  | a :: l, h => by
    obtain ⟨p, q⟩ := takeWhile_same (l := l) (fun x hx => h x (List.mem_cons_of_mem _ hx))
    have ha := h a List.mem_cons_self
    simp only [List.takeWhile_cons, List.dropWhile_cons, ha, p, q, and_self]
theorem rl_same {lt lt' : Nat → Nat → Bool} {n : Nat} (h : ∀ x y, x < n → y < n → lt x y = lt' x y) : ∀ m, m ≤ n → rl lt m = rl lt' m
  | 0, _ => rfl
  | m + 1, hm => by
    show insB _ _ _ = insB _ _ _
    rw [rl_same h m (by omega)]
    unfold insB
    obtain ⟨p, q⟩ := takeWhile_same (f := fun x => lx lt id x m) (g := fun x => lx lt' id x m) (l := rl lt' m) (fun x hx => by
      have := (rl_mem lt' m x).1 hx
      simp only [lx, h x m (by omega) (by omega), h m x (by omega) (by omega)])
    rw [p, q]
/-- A row of the call's own holds these numbers. -/
theorem row_holds {V : World} {B n : Nat} {v : Value} {d : List Nat} (h : V.ownsRow B 3 1 v n (vi (zi d))) (hn : 0 < n) (hd : ∀ x ∈ d, x < n) :
    d.length = n ∧ ∃ g cap, v = .slice (some ⟨g, 0, none⟩) n cap ∧ n ≤ cap ∧ cap ≤ maxLen ∧ B ≤ g ∧ g < V.heap.size ∧ Holds (encN n) V g 0 d.toArray ∧ ∃ cur, V.heap[g]? = some (.cells cur 3 (0, 0)) := by
  obtain ⟨hlen, ⟨rfl, h0⟩ | ⟨g, cap, cur, rfl, hb, hg, hc, hm, hs, ht⟩⟩ := h
  · omega
  · rw [vi_len, zi_len, Nat.mul_one] at hlen
    refine ⟨hlen, g, cap, rfl, hc, hm, hb, (Array.getElem?_eq_some_iff.1 hg).1, fun j hj => ?_, cur, hg⟩
    have hj' : j < d.length := by simpa using hj
    rw [Nat.mul_one] at ht
    have h1 : (vi (zi d))[j]? = some (.int .i64 ((d[j] : Nat) : Int)) := by simp [vi, zi, hj']
    rw [← ht, List.getElem?_take, if_pos (by omega)] at h1
    have e : encN n (d.toArray[j]!) = .int .i64 ((d[j] : Nat) : Int) := by
      rw [getElem!_pos _ j hj]
      simp only [List.getElem_toArray, encN]
      rw [Nat.mod_eq_of_lt (hd _ (List.getElem_mem hj'))]
    rw [e, Nat.zero_add]
    exact ⟨by simp only [World.cell?, hg]; simpa using h1, by simp [World.frozen?, hg]⟩
/-- What stands in the row behind the sort. -/
theorem put_ls {V : World} {g n cap m : Nat} {d : List Nat} {R : Array Nat} (hH : Holds (encN n) V g 0 d.toArray) (hd : d.length = n) (hR : R.toList.Perm d) (hlt : ∀ x ∈ d, x < n) (hc : n ≤ cap) (hm : cap ≤ maxLen) (hn : 0 < n) :
    LS ((putRow (encN n) V g 0 R).drewN m) (.slice (some ⟨g, 0, none⟩) n cap) (zi R.toList) := by
  have hRn : R.toList.length = n := by rw [hR.length_eq, hd]
  have hRs : R.size = n := by simpa using hRn
  refine ⟨some ⟨g, 0, none⟩, cap, by rw [zi_len, hRn], by rw [zi_len, hRn]; exact hc, by unfold maxLen at hm; omega, (fun e => by cases e), (fun ad e => by cases e; exact ⟨g, rfl⟩), fun i hi => ⟨g, 0, rfl, ?_⟩⟩
  rw [zi_len] at hi
  have hi2 : i < R.size := by simpa using hi
  have q := cell?_putRow (encN n) V g 0 d.toArray R hH (by simp; omega) i hi2
  have e : encN n (R[i]!) = .int .i64 ((zi R.toList)[i]'(by rw [zi_len]; exact hi)) := by
    rw [getElem!_pos _ i hi2, zi_at hi]
    simp only [encN, Array.getElem_toList]
    rw [Nat.mod_eq_of_lt (hlt _ (hR.subset (by simp)))]
  rw [e] at q
  exact q
set_option maxHeartbeats 1000000 in
/-- The options as they are drawn. -/
theorem drawn10_ok {w : World} {lots nm : ByteArray} {a : Option Addr} {n c : Nat} {r s m : Int} {os : List ByteArray} (hf : Fit lots nm os) (ho : F.SAt w a os) (hn : os.length = n) (hw : 1 ≤ n ∧ n ≤ 12) (hT : F.Tabs w) (hS : F.Starts w) :
    Calls Tryz.prog 34 #[CV nm a n c r s m, .string lots] w fun e w' => (∃ v, e = .returned v ∧ LS w' v (zi (rl (ltL lots nm os) n))) ∧ Below w.heap.size w w' := by
  refine drawn10 hf ho hn hw hT hS (R := fun v w' => LS w' v (zi (rl (ltL lots nm os) n))) fun V B Bt tv v h => ?_
  have hv : V.ownsRow B 3 1 v n (vi (zi (List.range n))) := by
    have e : vi (zi (List.range n)) = osL n := by simp [vi, zi, osL]
    rw [e]; exact h.o
  obtain ⟨hlen, g, cap, rfl, hc, hm, hBg, hgl, hH, cur, hcur⟩ := row_holds hv (by omega) (fun x hx => List.mem_range.1 hx)
  obtain ⟨gt, capt, rfl, htc⟩ : ∃ gt capt, tv = .slice (some ⟨gt, 0, none⟩) n capt ∧ (gt ≠ g ∧ ∀ j, j < n → V.cell? ⟨gt, j, none⟩ = some (.string (lot lots nm os j))) := by
    obtain ⟨hl, ⟨rfl, h0⟩ | ⟨gt, capt, curt, rfl, hbt, hgt, hct, hmt, hst, htt⟩⟩ := h.t
    · omega
    · refine ⟨gt, capt, rfl, fun e => ?_, fun j hj => ?_⟩
      · subst e; rw [hcur] at hgt; cases hgt
      · rw [Nat.mul_one] at htt
        have h1 : (tsL lots nm os n)[j]? = some (.string (lot lots nm os j)) := by simp [tsL, hj]
        rw [← htt, List.getElem?_take, if_pos hj] at h1
        simp only [World.cell?, hgt]
        simpa using h1
  have hBt : Bt ≠ g := by have := h.lt; omega
  have hcell : V.cell? ⟨Bt, 0, none⟩ = some (.slice (some ⟨gt, 0, none⟩) n capt) := h.h.cell 0 (by simp)
  have eg : ∀ args w, (callFunc 51 args).run Tryz.prog w = .ok (.enter 51 args) w := enters_of Tryz.func51 (by kernel_rfl) rfl
  have hcmp : CmpReads Tryz.prog 51 #[.pointer (some ⟨Bt, 0, none⟩)] (encN n) (fun x y => cmpS (lot lots nm os (x % n)) (lot lots nm os (y % n))) g 0 (List.range n).toArray.size V := fun m2 os2 dk hdk x y => by
    have hx : x % n < n := Nat.mod_lt _ (by omega)
    have hy : y % n < n := Nat.mod_lt _ (by omega)
    exact closure20 (sw_cell _ hcell hBt) hx hy (sw_cell _ (htc.2 _ hx) htc.1) (sw_cell _ (htc.2 _ hy) htc.1)
  have q := sort19 (encN n) (encN_one n) _ 51 #[.pointer (some ⟨Bt, 0, none⟩)] g cap n (List.range n).toArray V eg hcmp hH (by simp) (by omega)
  have e1 : (ltOf fun x y => cmpS (lot lots nm os (x % n)) (lot lots nm os (y % n))) = fun x y => ltL lots nm os (x % n) (y % n) := by
    funext x y; exact cmpS_lt _ _
  rw [e1] at q
  have sw : SWO (fun x y => ltL lots nm os (x % n) (y % n)) := ⟨fun x => (ltL_swo lots nm os).irrefl _, fun x y z => (ltL_swo lots nm os).trans _ _ _, fun x y z => (ltL_swo lots nm os).ntrans _ _ _⟩
  have e2 := lots_same sw n
  have e3 : rl (fun x y => ltL lots nm os (x % n) (y % n)) n = rl (ltL lots nm os) n := rl_same (n := n) (fun x y hx hy => by rw [Nat.mod_eq_of_lt hx, Nat.mod_eq_of_lt hy]) n (Nat.le_refl _)
  rw [e3] at e2
  refine q.mono ?_
  rintro e w' ⟨rfl, m2, rfl⟩
  refine ⟨rfl, below_put _ h.bl (by have := h.ge; omega), ?_⟩
  rw [← e2]
  exact put_ls hH hlen (by rw [e2]; exact rl_perm _ _) (fun x hx => List.mem_range.1 hx) hc hm (by omega)
end Go.Proofs.YtkcnpcjogfhkbaaGreatDoor.K
namespace Go.Proofs.YtkcnpcjogfhkbaaGreatDoor

/-- How many are not 0. -/
def nz (l : List Int) : Nat := l.countP (fun x => x != 0)
/-- How many are from 1 to K. -/
def upTo (K : Nat) (l : List Int) : Nat := l.countP (fun x => decide (1 ≤ x ∧ x ≤ (K : Int)))
theorem upTo_zero (l : List Int) : upTo 0 l = 0 := by
  unfold upTo
  rw [List.countP_eq_zero]
  intro x _
  simp
  omega
theorem upTo_succ (K : Nat) (l : List Int) : upTo (K + 1) l = upTo K l + l.count ((K + 1 : Nat) : Int) := by
  induction l with
  | nil => rfl
  | cons x l ih =>
    unfold upTo at *
    rw [List.countP_cons, List.countP_cons, List.count_cons, ih]
    by_cases h1 : x = ((K + 1 : Nat) : Int)
    · subst h1
      have a : (1 ≤ (((K + 1 : Nat) : Int)) ∧ ((K + 1 : Nat) : Int) ≤ ((K + 1 : Nat) : Int)) := by omega
      have b : ¬ (1 ≤ (((K + 1 : Nat) : Int)) ∧ ((K + 1 : Nat) : Int) ≤ (K : Int)) := by omega
      rw [decide_eq_true a, decide_eq_false b]
      simp
      omega
    · have e : (1 ≤ x ∧ x ≤ ((K + 1 : Nat) : Int)) ↔ (1 ≤ x ∧ x ≤ (K : Int)) := by omega
      have e2 : decide (1 ≤ x ∧ x ≤ ((K + 1 : Nat) : Int)) = decide (1 ≤ x ∧ x ≤ (K : Int)) := decide_eq_decide.2 e
      rw [e2]
      have hb : (x == ((K + 1 : Nat) : Int)) = false := by simpa using h1
      rw [hb]
      simp
      omega
theorem upTo_le {l : List Int} : ∀ K, (∀ n : Nat, 1 ≤ n → n ≤ K → l.count (n : Int) ≤ 1) → upTo K l ≤ K
  | 0, _ => by rw [upTo_zero]; omega
  | K + 1, h => by
    have := upTo_le K (fun n a b => h n a (by omega))
    have := h (K + 1) (by omega) (by omega)
    rw [upTo_succ]
    omega
theorem upTo_all {l : List Int} : ∀ K, (∀ n : Nat, 1 ≤ n → n ≤ K → l.count (n : Int) = 1) → upTo K l = K
  | 0, _ => upTo_zero _
  | K + 1, h => by
    have := upTo_all K (fun n a b => h n a (by omega))
    have := h (K + 1) (by omega) (by omega)
    rw [upTo_succ]
    omega
theorem upTo_each {l : List Int} : ∀ K, (∀ n : Nat, 1 ≤ n → n ≤ K → l.count (n : Int) ≤ 1) → upTo K l = K → ∀ n : Nat, 1 ≤ n → n ≤ K → l.count (n : Int) = 1
  | 0, _, _ => fun n a b => by omega
  | K + 1, h, e => fun n a b => by
    have h1 := upTo_le K (fun n a b => h n a (by omega))
    have h2 := h (K + 1) (by omega) (by omega)
    rw [upTo_succ] at e
    by_cases hn : n = K + 1
    · subst hn; omega
    · exact upTo_each K (fun n a b => h n a (by omega)) (by omega) n a (by omega)
theorem countP_back {α : Type} {p q : α → Bool} : ∀ {l : List α}, (∀ x ∈ l, p x = true → q x = true) → l.countP p = l.countP q → ∀ x ∈ l, q x = true → p x = true
  | [], _, _ => fun x h => by cases h
  | y :: l, h, e => by
    have h' : ∀ x ∈ l, p x = true → q x = true := fun x hx => h x (List.mem_cons_of_mem _ hx)
    have hle : l.countP p ≤ l.countP q := List.countP_mono_left h'
    rw [List.countP_cons, List.countP_cons] at e
    have hy := h y (List.mem_cons_self ..)
    intro x hx hq
    cases hp : p y with
    | true =>
      rw [hp, hy hp] at e
      rcases List.mem_cons.1 hx with rfl | hx
      · exact hp
      · exact countP_back h' (by omega) x hx hq
    | false =>
      rw [hp] at e
      cases hqy : q y with
      | true => rw [hqy] at e; simp at e; omega
      | false =>
        rw [hqy] at e
        rcases List.mem_cons.1 hx with rfl | hx
        · rw [hq] at hqy; cases hqy
        · exact countP_back h' (by simpa using e) x hx hq
/-- What the program asks of ranks. -/
def Ranked (l : List Int) : Prop := (∀ x ∈ l, 0 ≤ x ∧ x ≤ (nz l : Int)) ∧ ∀ x ∈ l, 0 < x → l.count x ≤ 1
/-- What the document asks. -/
def RanksD (l : List Int) : Prop := (∀ x ∈ l, 0 ≤ x ∧ x ≤ (l.length : Int)) ∧ ∀ n : Nat, 1 ≤ n → n ≤ nz l → l.count (n : Int) = 1
theorem nz_le (l : List Int) : nz l ≤ l.length := List.countP_le_length
theorem ranked_iff (l : List Int) : Ranked l ↔ RanksD l := by
  have hle := nz_le l
  constructor
  · rintro ⟨h1, h2⟩
    refine ⟨fun x hx => ⟨(h1 x hx).1, by have := (h1 x hx).2; omega⟩, ?_⟩
    have h3 : ∀ n : Nat, 1 ≤ n → n ≤ nz l → l.count (n : Int) ≤ 1 := fun n a b => by
      by_cases hm : (n : Int) ∈ l
      · exact h2 _ hm (by omega)
      · rw [List.count_eq_zero_of_not_mem hm]; omega
    have e : upTo (nz l) l = nz l := by
      have : upTo (nz l) l = l.countP (fun x => x != 0) := List.countP_congr fun x hx => by
        have := h1 x hx
        simp
        omega
      rw [this]; rfl
    exact upTo_each _ h3 e
  · rintro ⟨h1, h2⟩
    have e := upTo_all (nz l) h2
    have h3 : ∀ x ∈ l, (x != 0) = true → decide (1 ≤ x ∧ x ≤ (nz l : Int)) = true := countP_back (p := fun x => decide (1 ≤ x ∧ x ≤ (nz l : Int))) (q := fun x => x != 0) (fun x _ h => by simp at h ⊢; omega) e
    refine ⟨fun x hx => ⟨(h1 x hx).1, ?_⟩, fun x hx hp => ?_⟩
    · by_cases h0 : x = 0
      · omega
      · have := h3 x hx (by simpa using h0)
        simp at this
        omega
    · have := h3 x hx (by simp; omega)
      simp at this
      obtain ⟨n, rfl⟩ := Int.eq_ofNat_of_zero_le (show 0 ≤ x by omega)
      exact Nat.le_of_eq (h2 n (by omega) (by omega))
theorem nz_take {l : List Int} {i : Nat} (h : i < l.length) : nz (l.take (i + 1)) = nz (l.take i) + (if l[i] != 0 then 1 else 0) := by
  unfold nz
  rw [List.take_succ_eq_append_getElem h, List.countP_append, List.countP_cons, List.countP_nil]
  omega
theorem count_take {l : List Int} {i : Nat} (h : i < l.length) (x : Int) : (l.take (i + 1)).count x = (l.take i).count x + (if l[i] == x then 1 else 0) := by
  rw [List.take_succ_eq_append_getElem h, List.count_append, List.count_cons, List.count_nil]
  omega
theorem nz_count (l : List Int) : nz l = l.length - l.count 0 := by
  have : l.length = nz l + l.count 0 := by
    induction l with
    | nil => rfl
    | cons x l ih =>
      unfold nz at *
      rw [List.countP_cons, List.count_cons, List.length_cons]
      by_cases h : x = 0
      · subst h; simp; omega
      · have a : (x != 0) = true := by simpa using h
        have b : (x == 0) = false := by simpa using h
        rw [a, b]; simp; omega
  omega
theorem count_two {l : List Int} {i : Nat} (h : i < l.length) (hm : l[i] ∈ l.take i) : 2 ≤ l.count l[i] := by
  have e : l.count l[i] = (l.take (i + 1)).count l[i] + (l.drop (i + 1)).count l[i] := by rw [← List.count_append, List.take_append_drop]
  have := List.count_pos_iff.2 hm
  rw [count_take h] at e
  simp at e
  omega
end Go.Proofs.YtkcnpcjogfhkbaaGreatDoor
namespace Go.Proofs.YtkcnpcjogfhkbaaGreatDoor
open Go.RowKit Go.Deep Go.PlainAid

/-- A contest as a value. -/
def CV (nm : ByteArray) (a : Option Addr) (n c : Nat) (r s m : Int) : Value := .agg #[.string nm, .slice a n c, .int .i64 r, .int .i64 s, .int .i64 m]
theorem cell_lt {w : World} {b o : Nat} {v : Value} (h : w.cell? ⟨b, o, none⟩ = some v) : b < w.heap.size := World.block_lt_of_cell? _ _ h
theorem cell_keep {w w' : World} {b o : Nat} {v : Value} (h : w.cell? ⟨b, o, none⟩ = some v) (hb : Below w.heap.size w w') : w'.cell? ⟨b, o, none⟩ = some v := (World.cell?_of_block (a := ⟨b, o, none⟩) (hb.block b (cell_lt h))).trans h
/-- Block b holds these cells. -/
def IHolds (w : World) (b : Nat) (t : TypeId) (l : List Value) : Prop := w.heap[b]? = some (.cells l.toArray t)
theorem IHolds.lt {w : World} {b : Nat} {t : TypeId} {l : List Value} (h : IHolds w b t l) : b < w.heap.size := (Array.getElem?_eq_some_iff.1 h).1
theorem IHolds.cell {w : World} {b : Nat} {t : TypeId} {l : List Value} (h : IHolds w b t l) (i : Nat) (hi : i < l.length) : w.cell? ⟨b, i, none⟩ = some l[i] := by
  unfold IHolds at h
  simp [World.cell?, h, hi]
theorem IHolds.frozen {w : World} {b : Nat} {t : TypeId} {l : List Value} (h : IHolds w b t l) (i : Nat) : w.frozen? ⟨b, i, none⟩ = false := by
  unfold IHolds at h
  simp [World.frozen?, h]
theorem IHolds.new (w : World) (t : TypeId) (l : List Value) : IHolds (w.alloc (.cells l.toArray t)) w.heap.size t l := by
  show (w.heap.push _)[w.heap.size]? = _
  simp
theorem IHolds.of_below {w w' : World} {b : Nat} {t : TypeId} {l : List Value} (h : IHolds w b t l) (hb : Below w.heap.size w w') : IHolds w' b t l := by
  unfold IHolds; rw [hb.block _ h.lt]; exact h
theorem IHolds.set {w : World} {b : Nat} {t : TypeId} {l : List Value} (h : IHolds w b t l) (i : Nat) (x : Value) : IHolds (w.setCell ⟨b, i, none⟩ x) b t (l.set i x) := by
  unfold IHolds at *
  simp [World.setCell, Array.getElem?_modify, h, List.map_set]
/-- A list of numbers. -/
def IL (w : World) (a : Option Addr) (l : List Int) : Prop := ∀ i (h : i < l.length), ∃ b o, a = some ⟨b, o, none⟩ ∧ w.cell? ⟨b, o + i, none⟩ = some (.int .i64 l[i])
theorem IL.of_below {w w' : World} {a : Option Addr} {l : List Int} (h : IL w a l) (hb : Below w.heap.size w w') : IL w' a l := by
  intro i hi
  obtain ⟨b, o, e, hc⟩ := h i hi
  exact ⟨b, o, e, cell_keep hc hb⟩
/-- Ranks are asked for. -/
def rk (r : Int) : Bool := r == 3 || r == 4
theorem ranks10 (nm : ByteArray) (a : Option Addr) (n c : Nat) (r s m : Int) (w : World) : Calls Tryz.prog 77 #[CV nm a n c r s m] w fun e w' => e = .returned (.bool (rk r)) ∧ Below w.heap.size w w' := by
  unfold CV rk
  have B : Hid (Below w.heap.size w (w.alloc (.cells #[.string nm, .slice a n c, .int .i64 r, .int .i64 s, .int .i64 m] 24))) := (Below.refl _ _).alloc (Nat.le_refl _) _
  cases h3 : (r == 3)
  · go_enter Tryz.func77, Tryz.ntmps77
    go_wp2_with fail
    go_ret
    exact ⟨by simp, B.out⟩
  · go_enter Tryz.func77, Tryz.ntmps77
    go_wp2_with fail
    go_ret
    exact ⟨by simp, B.out⟩
end Go.Proofs.YtkcnpcjogfhkbaaGreatDoor
