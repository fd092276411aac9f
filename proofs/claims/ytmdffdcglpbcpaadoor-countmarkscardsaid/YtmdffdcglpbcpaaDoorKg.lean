/- Sorting of the options; the options as they are drawn. -/
import Derived.Test.YtmdffdcglpbcpaaDoorKf
set_option linter.unusedSimpArgs false
set_option linter.unusedVariables false
set_option maxRecDepth 100000
namespace Go.Proofs.YtmdffdcglpbcpaaDoor
open Go.RowKit Go.Deep Go.PlainAid Go.Sort Go.Shelf Go.Lib

theorem sw_cell (enc : Nat → Value) {w : World} {blk off m b o : Nat} {dk : Array Nat} {os : Array Obj} {u : Value} (h : w.cell? ⟨b, o, none⟩ = some u) (hne : b ≠ blk) : (sortWorld enc w blk off m dk os).cell? ⟨b, o, none⟩ = some u := by
  have hb := cell_lt h
  unfold sortWorld
  rw [cell?_grow _ _ _ (by simpa [putRow, mapBlock, ahead] using hb), cell?_putRow_other _ _ _ _ _ _ (Or.inl hne)]
  exact h
theorem below_put {w V : World} (enc : Nat → Value) {g off m : Nat} {d : Array Nat} (h : Below w.heap.size w V) (hg : w.heap.size ≤ g) : Below w.heap.size w ((putRow enc V g off d).drewN m) :=
  ⟨h.os, h.tape, h.output, by have := h.size; simpa [putRow, mapBlock, World.drewN] using this, fun k hk => by
    have e : ((putRow enc V g off d).drewN m).heap[k]? = V.heap[k]? := by
      show (V.heap.modify g _)[k]? = _
      rw [Array.getElem?_modify, if_neg (by omega)]
    rw [e]; exact h.block k hk⟩
set_option maxHeartbeats 1000000 in
theorem stable27 (enc : Nat → Value) (hO : OneCell enc) (cf : Nat → Nat → Int) (g : Nat) (cb : Array Value) (blk cap n : Nat) (d : Array Nat) (w : World) (eg : ∀ args w, (callFunc g args).run Tryd.prog w = .ok (.enter g args) w) (hcmp : CmpReads Tryd.prog g cb enc cf blk 0 d.size w) (hH : Holds enc w blk 0 d) (hn : d.size = n) (h12 : n ≤ 12) :
    Calls Tryd.prog 27 #[.slice (some ⟨blk, 0, none⟩) n cap, .int .i64 (n : Int), .func (.func g) #[] cb] w fun e w' => e = .returned (.tuple #[]) ∧ ∃ m, w' = (putRow enc w blk 0 (insertionSort (ltOf cf) d 0 n)).drewN m := by
  have q := ins36 enc hO cf g cb blk 0 cap 0 d.size d w eg hcmp hH (Nat.zero_le _) (Nat.le_refl _) (by omega)
  rw [hn] at q
  have H : Hid (Calls Tryd.prog 36 #[.slice (some ⟨blk, 0, none⟩) n cap, .int .i64 0, .int .i64 (n : Int), .func (.func g) #[] cb] w fun e w' => e = .returned (.tuple #[]) ∧ ∃ m, w' = (putRow enc w blk 0 (insertionSort (ltOf cf) d 0 n)).drewN m) := q
  clear q hH hcmp eg hO
  generalize insertionSort (ltOf cf) d 0 n = r at *
  have c1 : ¬ (20 : Int) ≤ (n : Int) := by omega
  have c2 : ¬ (20 : Int) < (n : Int) := by omega
  go_enter Tryd.func27, Tryd.ntmps27
  go_wp2_with fail
  go_loopg [7, 8] 1 (fun gk v7 v8 wr => gk = 1 ∧ v7 = .int .i64 0 ∧ v8 = .int .i64 20 ∧ wr = w)
  case atStart => exact ⟨rfl, rfl, rfl, rfl⟩
  case round =>
    obtain ⟨rfl, rfl, rfl, rfl⟩ := hrel
    go_wp2_with (go_at_call 36; refine H.out.mono ?_; rintro e w1 ⟨rfl, m, hw1⟩; have HW : Hid (w1 = (putRow enc wr blk 0 r).drewN m) := hw1; clear hw1 H)
    go_loopg [6, 7, 8, 9] 1 (fun gk v6 v7 v8 v9 wr2 => gk = 1 ∧ v6 = .int .i64 20 ∧ wr2 = w1)
    case atStart => exact ⟨rfl, rfl, rfl⟩
    case round =>
      obtain ⟨rfl, rfl, rfl⟩ := hrel
      go_wp2_with fail
      go_end0
      exact ⟨rfl, m, HW.out⟩
set_option maxHeartbeats 1000000 in
theorem sort19 (enc : Nat → Value) (hO : OneCell enc) (cf : Nat → Nat → Int) (g : Nat) (cb : Array Value) (blk cap n : Nat) (d : Array Nat) (w : World) (eg : ∀ args w, (callFunc g args).run Tryd.prog w = .ok (.enter g args) w) (hcmp : CmpReads Tryd.prog g cb enc cf blk 0 d.size w) (hH : Holds enc w blk 0 d) (hn : d.size = n) (h12 : n ≤ 12) :
    Calls Tryd.prog 19 #[.slice (some ⟨blk, 0, none⟩) n cap, .func (.func g) #[] cb] w fun e w' => e = .returned (.tuple #[]) ∧ ∃ m, w' = (putRow enc w blk 0 (insertionSort (ltOf cf) d 0 n)).drewN m := by
  have H : Hid (Calls Tryd.prog 27 #[.slice (some ⟨blk, 0, none⟩) n cap, .int .i64 (n : Int), .func (.func g) #[] cb] w fun e w' => e = .returned (.tuple #[]) ∧ ∃ m, w' = (putRow enc w blk 0 (insertionSort (ltOf cf) d 0 n)).drewN m) := stable27 enc hO cf g cb blk cap n d w eg hcmp hH hn h12
  clear hH hcmp eg hO
  generalize insertionSort (ltOf cf) d 0 n = r at *
  go_enter Tryd.func19, Tryd.ntmps19
  go_wp2_with (go_at_call 27; refine H.out.mono ?_; rintro e w1 ⟨rfl, m, hw1⟩; have HW : Hid (w1 = (putRow enc w blk 0 r).drewN m) := hw1; clear hw1 H)
  go_end0
  exact ⟨rfl, m, HW.out⟩
/-- An option as a value. -/
def encN (n : Nat) (x : Nat) : Value := .int .i64 ((x % n : Nat) : Int)
theorem encN_one (n : Nat) : OneCell (encN n) := fun x => rfl
set_option maxHeartbeats 1000000 in
theorem closure20 {V : World} {Bt gt n cap x y : Nat} {X Y : ByteArray} (hT : V.cell? ⟨Bt, 0, none⟩ = some (.slice (some ⟨gt, 0, none⟩) n cap)) (hx : x < n) (hy : y < n) (hX : V.cell? ⟨gt, x, none⟩ = some (.string X)) (hY : V.cell? ⟨gt, y, none⟩ = some (.string Y)) :
    Calls Tryd.prog 20 #[.int .i64 (x : Int), .int .i64 (y : Int), .pointer (some ⟨Bt, 0, none⟩)] V fun e w' => e = .returned (.int .i64 (cmpS X Y)) ∧ ∃ q, w' = V.drewN q := by
  have C : Hid (∀ W, Calls Tryd.prog 21 #[.string X, .string Y] W fun e w' => e = .returned (.int .i64 (cmpS X Y)) ∧ w' = W) := compare21 X Y
  have xl : (x : Int) < (n : Int) := by omega
  have yl : (y : Int) < (n : Int) := by omega
  generalize cmpS X Y = r at *
  go_enter Tryd.func20, Tryd.ntmps20
  go_wp2_with fail
  go_quiet (first | (go_at_call 21; exact Calls.quiet_of_same (C.out _)) | fail)
  have HQ : Hid (∃ q, World.drewN V nq = V.drewN q) := ⟨_, rfl⟩
  clear hT hX hY
  generalize World.drewN V nq = wq at *
  go_wp2_with fail
  go_ret
  exact ⟨rfl, HQ.out⟩
set_option maxHeartbeats 1000000 in
theorem closure31 {V : World} {Bf Bt bt ot n cap x y : Nat} {X Y : Int} (hF : V.cell? ⟨Bf, 0, none⟩ = some (.func (.func 25) #[] #[])) (hT : V.cell? ⟨Bt, 0, none⟩ = some (.slice (some ⟨bt, ot, none⟩) n cap)) (hx : x < n) (hy : y < n) (hX : V.cell? ⟨bt, ot + x, none⟩ = some (.int .i64 X)) (hY : V.cell? ⟨bt, ot + y, none⟩ = some (.int .i64 Y)) :
    Calls Tryd.prog 31 #[.int .i64 (x : Int), .int .i64 (y : Int), .pointer (some ⟨Bf, 0, none⟩), .pointer (some ⟨Bt, 0, none⟩)] V fun e w' => e = .returned (.int .i64 (cmpI Y X)) ∧ ∃ q, w' = V.drewN q := by
  have C : Hid (∀ W, Calls Tryd.prog 25 #[.int .i64 Y, .int .i64 X] W fun e w' => e = .returned (.int .i64 (cmpI Y X)) ∧ w' = W) := compare25 Y X
  have xl : (x : Int) < (n : Int) := by omega
  have yl : (y : Int) < (n : Int) := by omega
  generalize cmpI Y X = r at *
  go_enter Tryd.func31, Tryd.ntmps31
  go_wp2_with fail
  go_quiet (first | (go_at_call 25; exact Calls.quiet_of_same (C.out _)) | fail)
  have HQ : Hid (∃ q, World.drewN V nq = V.drewN q) := ⟨_, rfl⟩
  clear hT hX hY hF
  generalize World.drewN V nq = wq at *
  go_wp2_with fail
  go_ret
  exact ⟨rfl, HQ.out⟩
theorem takeWhile_same {f g : Nat → Bool} : ∀ {l : List Nat}, (∀ x ∈ l, f x = g x) → l.takeWhile f = l.takeWhile g ∧ l.dropWhile f = l.dropWhile g
  | [], _ => ⟨rfl, rfl⟩
  | a :: l, h => by
    obtain ⟨p, q⟩ := takeWhile_same (l := l) (fun x hx => h x (List.mem_cons_of_mem _ hx))
    have ha := h a List.mem_cons_self
    simp only [List.takeWhile_cons, List.dropWhile_cons, ha, p, q, and_self]
theorem rl_same {lt lt' : Nat → Nat → Bool} {n : Nat} (h : ∀ x y, x < n → y < n → lt x y = lt' x y) : ∀ m, m ≤ n → rl lt m = rl lt' m
  | 0, _ => rfl
  | m + 1, hm => by
    show insB _ _ _ = insB _ _ _
    rw [rl_same h m (by omega)]
    unfold insB
    obtain ⟨p, q⟩ := takeWhile_same (f := fun x => lx lt id x m) (g := fun x => lx lt' id x m) (l := rl lt' m) (fun x hx => by
      have := (rl_mem lt' m x).1 hx
      simp only [lx, h x m (by omega) (by omega), h m x (by omega) (by omega)])
    rw [p, q]
/-- A row of the call's own holds these numbers. -/
theorem row_holds {V : World} {B n : Nat} {v : Value} {d : List Nat} (h : V.ownsRow B 3 1 v n (vi (zi d))) (hn : 0 < n) (hd : ∀ x ∈ d, x < n) :
    d.length = n ∧ ∃ g cap, v = .slice (some ⟨g, 0, none⟩) n cap ∧ n ≤ cap ∧ cap ≤ maxLen ∧ B ≤ g ∧ g < V.heap.size ∧ Holds (encN n) V g 0 d.toArray ∧ ∃ cur, V.heap[g]? = some (.cells cur 3 (0, 0)) := by
  obtain ⟨hlen, ⟨rfl, h0⟩ | ⟨g, cap, cur, rfl, hb, hg, hc, hm, hs, ht⟩⟩ := h
  · omega
  · rw [vi_len, zi_len, Nat.mul_one] at hlen
    refine ⟨hlen, g, cap, rfl, hc, hm, hb, (Array.getElem?_eq_some_iff.1 hg).1, fun j hj => ?_, cur, hg⟩
    have hj' : j < d.length := by simpa using hj
    rw [Nat.mul_one] at ht
    have h1 : (vi (zi d))[j]? = some (.int .i64 ((d[j] : Nat) : Int)) := by simp [vi, zi, hj']
    rw [← ht, List.getElem?_take, if_pos (by omega)] at h1
    have e : encN n (d.toArray[j]!) = .int .i64 ((d[j] : Nat) : Int) := by
      rw [getElem!_pos _ j hj]
      simp only [List.getElem_toArray, encN]
      rw [Nat.mod_eq_of_lt (hd _ (List.getElem_mem hj'))]
    rw [e, Nat.zero_add]
    exact ⟨by simp only [World.cell?, hg]; simpa using h1, by simp [World.frozen?, hg]⟩
/-- What stands in the row behind the sort. -/
theorem put_ls {V : World} {g n cap m : Nat} {d : List Nat} {R : Array Nat} (hH : Holds (encN n) V g 0 d.toArray) (hd : d.length = n) (hR : R.toList.Perm d) (hlt : ∀ x ∈ d, x < n) (hc : n ≤ cap) (hm : cap ≤ maxLen) (hn : 0 < n) :
    LS ((putRow (encN n) V g 0 R).drewN m) (.slice (some ⟨g, 0, none⟩) n cap) (zi R.toList) := by
  have hRn : R.toList.length = n := by rw [hR.length_eq, hd]
  have hRs : R.size = n := by simpa using hRn
  refine ⟨some ⟨g, 0, none⟩, cap, by rw [zi_len, hRn], by rw [zi_len, hRn]; exact hc, by unfold maxLen at hm; omega, (fun e => by cases e), (fun ad e => by cases e; exact ⟨g, rfl⟩), fun i hi => ⟨g, 0, rfl, ?_⟩⟩
  rw [zi_len] at hi
  have hi2 : i < R.size := by simpa using hi
  have q := cell?_putRow (encN n) V g 0 d.toArray R hH (by simp; omega) i hi2
  have e : encN n (R[i]!) = .int .i64 ((zi R.toList)[i]'(by rw [zi_len]; exact hi)) := by
    rw [getElem!_pos _ i hi2, zi_at hi]
    simp only [encN, Array.getElem_toList]
    rw [Nat.mod_eq_of_lt (hlt _ (hR.subset (by simp)))]
  rw [e] at q
  exact q
set_option maxHeartbeats 1000000 in
/-- The options as they are drawn. -/
theorem drawn10_ok {w : World} {lots nm : ByteArray} {a : Option Addr} {n c : Nat} {r s m : Int} {os : List ByteArray} (hf : Fit lots nm os) (ho : F.SAt w a os) (hn : os.length = n) (hw : 1 ≤ n ∧ n ≤ 12) (hT : F.Tabs w) (hS : F.Starts w) :
    Calls Tryd.prog 10 #[CV nm a n c r s m, .string lots] w fun e w' => (∃ v, e = .returned v ∧ LS w' v (zi (rl (ltL lots nm os) n))) ∧ Below w.heap.size w w' := by
  refine drawn10 hf ho hn hw hT hS (R := fun v w' => LS w' v (zi (rl (ltL lots nm os) n))) fun V B Bt tv v h => ?_
  have hv : V.ownsRow B 3 1 v n (vi (zi (List.range n))) := by
    have e : vi (zi (List.range n)) = osL n := by simp [vi, zi, osL]
    rw [e]; exact h.o
  obtain ⟨hlen, g, cap, rfl, hc, hm, hBg, hgl, hH, cur, hcur⟩ := row_holds hv (by omega) (fun x hx => List.mem_range.1 hx)
  obtain ⟨gt, capt, rfl, htc⟩ : ∃ gt capt, tv = .slice (some ⟨gt, 0, none⟩) n capt ∧ (gt ≠ g ∧ ∀ j, j < n → V.cell? ⟨gt, j, none⟩ = some (.string (lot lots nm os j))) := by
    obtain ⟨hl, ⟨rfl, h0⟩ | ⟨gt, capt, curt, rfl, hbt, hgt, hct, hmt, hst, htt⟩⟩ := h.t
    · omega
    · refine ⟨gt, capt, rfl, fun e => ?_, fun j hj => ?_⟩
      · subst e; rw [hcur] at hgt; cases hgt
      · rw [Nat.mul_one] at htt
        have h1 : (tsL lots nm os n)[j]? = some (.string (lot lots nm os j)) := by simp [tsL, hj]
        rw [← htt, List.getElem?_take, if_pos hj] at h1
        simp only [World.cell?, hgt]
        simpa using h1
  have hBt : Bt ≠ g := by have := h.lt; omega
  have hcell : V.cell? ⟨Bt, 0, none⟩ = some (.slice (some ⟨gt, 0, none⟩) n capt) := h.h.cell 0 (by simp)
  have eg : ∀ args w, (callFunc 20 args).run Tryd.prog w = .ok (.enter 20 args) w := enters_of Tryd.func20 (by kernel_rfl) rfl
  have hcmp : CmpReads Tryd.prog 20 #[.pointer (some ⟨Bt, 0, none⟩)] (encN n) (fun x y => cmpS (lot lots nm os (x % n)) (lot lots nm os (y % n))) g 0 (List.range n).toArray.size V := fun m2 os2 dk hdk x y => by
    have hx : x % n < n := Nat.mod_lt _ (by omega)
    have hy : y % n < n := Nat.mod_lt _ (by omega)
    exact closure20 (sw_cell _ hcell hBt) hx hy (sw_cell _ (htc.2 _ hx) htc.1) (sw_cell _ (htc.2 _ hy) htc.1)
  have q := sort19 (encN n) (encN_one n) _ 20 #[.pointer (some ⟨Bt, 0, none⟩)] g cap n (List.range n).toArray V eg hcmp hH (by simp) (by omega)
  have e1 : (ltOf fun x y => cmpS (lot lots nm os (x % n)) (lot lots nm os (y % n))) = fun x y => ltL lots nm os (x % n) (y % n) := by
    funext x y; exact cmpS_lt _ _
  rw [e1] at q
  have sw : SWO (fun x y => ltL lots nm os (x % n) (y % n)) := ⟨fun x => (ltL_swo lots nm os).irrefl _, fun x y z => (ltL_swo lots nm os).trans _ _ _, fun x y z => (ltL_swo lots nm os).ntrans _ _ _⟩
  have e2 := lots_same sw n
  have e3 : rl (fun x y => ltL lots nm os (x % n) (y % n)) n = rl (ltL lots nm os) n := rl_same (n := n) (fun x y hx hy => by rw [Nat.mod_eq_of_lt hx, Nat.mod_eq_of_lt hy]) n (Nat.le_refl _)
  rw [e3] at e2
  refine q.mono ?_
  rintro e w' ⟨rfl, m2, rfl⟩
  refine ⟨rfl, below_put _ h.bl (by have := h.ge; omega), ?_⟩
  rw [← e2]
  exact put_ls hH hlen (by rw [e2]; exact rl_perm _ _) (fun x hx => List.mem_range.1 hx) hc hm (by omega)
end Go.Proofs.YtmdffdcglpbcpaaDoor
