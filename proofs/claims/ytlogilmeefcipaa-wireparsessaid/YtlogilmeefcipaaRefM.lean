/- The document's read: a list, its walk. -/
import Derived.Test.YtlogilmeefcipaaRefN
set_option linter.unusedSimpArgs false
set_option linter.unusedVariables false
set_option maxRecDepth 100000
namespace Go.Proofs.Ytlogilmeefcipaa
open Go.RowKit Go.Deep Go.PlainAid Go.Shelf

set_option maxHeartbeats 4000000 in
theorem read_list (d : Nat) (hd : d + 1 ≤ 12) (ih : ReadC d) (l : List UInt8) (p : Nat) (w : World) (hl : l.length ≤ 1048576) (hp : p < l.length) (hh : (l.drop p).head? = some 40) :
    Calls Try.prog 15 #[S l, .int .i64 (p : Int), .int .i64 ((d + 1 : Nat) : Int)] w fun e w' => Below w.heap.size w w' ∧ ReadE l (match listP (nodeP d) ((l.drop p).length + 1) (l.drop p).tail with
      | none => none
      | some (ns, r) => some (Nd.list ns, r)) (fun k => w.heap.size ≤ k) e w' := by
  obtain ⟨i0, hi0, hz0, hz1, hz2⟩ := info_parts info24
  have hsz := size_S l
  have hb := get_bt ⟨l.toArray⟩
  have h40 : bt ⟨l.toArray⟩ p = 40 := by
    rw [bt_S l p hp]
    rw [List.head?_drop, List.getElem?_eq_getElem hp] at hh
    simp only [Option.some.injEq] at hh
    rw [hh]; rfl
  have h40' : (bt ⟨l.toArray⟩ p == 40) = true := by simpa using h40
  have pl : (p : Int) < (l.length : Int) := by omega
  have p2 : ¬ l.length ≤ p := by omega
  have p3 : decide (l.length ≤ p) = false := by simpa using p2
  have IH := fun c w1 hc => ih l c w1 hl hc
  obtain ⟨D, hD⟩ : ∃ D : Int, D = ((d + 1 : Nat) : Int) := ⟨_, rfl⟩
  have d1 : (D == 0) = false := by simp; omega
  have d2 : (d : Int) = D - 1 := by omega
  have d3 : 1 ≤ D := by omega
  have d4 : D ≤ 12 := by omega
  rw [← hD]
  rw [d2] at IH
  clear hD d2 ih
  have L0 : Hid (RS d l p w ((w.alloc zN).alloc zN) (.slice none 0 0) (p + 1) [] [] ((l.drop p).length + 1)) :=
    ⟨by simp; omega, by omega, by simp, ((Below.refl _ w).alloc (Nat.le_refl _) _).alloc (by simp) _, IHolds.new' (w.alloc zN) 24 [.bool false, .string ⟨#[]⟩, .slice none 0 0] (by simp), (IHolds.new' w 24 [.bool false, .string ⟨#[]⟩, .slice none 0 0] rfl).alloc _, World.ownsRow_nil _ _ _ _, LAt.nil _ _, by rw [List.tail_drop]; cases listP (nodeP d) ((l.drop p).length + 1) (l.drop (p + 1)) <;> simp⟩
  clear hh
  generalize hP : listP (nodeP d) ((l.drop p).length + 1) (l.drop p).tail = PP at *
  go_enter Try.func15, Try.ntmps15
  go_wp2_with fail
  go_loopg [1, 9, 10] (l.length - p - 1) (fun gk v1 v9 v10 wr => ∃ (c : Nat) (v : Value) (acc : List Nd) (T : List (Value × Value × Value)) (k : Nat), v1 = .int .i64 (c : Int) ∧ c + gk = l.length ∧ RS d l p w wr v c acc T k)
  case atStart => exact ⟨p + 1, _, [], [], _, by go_num, by omega, L0.out⟩
  case round =>
    obtain ⟨c, v, acc, T, k, rfl, hcg, hrs⟩ := hrel
    have LL : Hid (RS d l p w wr v c acc T k) := hrs
    have hT := hrs.at_.len
    have hlen := hrs.len
    have hcl := hrs.cl
    simp at hlen
    have hst := hrs.nd.lt
    have RR : Hid (IHolds wr w.heap.size 24 [.bool false, .string ⟨#[]⟩, .slice none 0 0]) := hrs.res
    obtain ⟨va, vm, vc, hv⟩ := owned_slice hrs.own
    subst hv
    clear hrs L0
    by_cases hend : c = l.length
    · have e0 : l.drop c = [] := by rw [hend]; simp
      have hPP := LL.out.none (by rw [e0]; simp) (by rw [e0]; exact nodeP_nil d)
      rw [hP] at hPP
      subst hPP
      have k1 : ¬ (c : Int) < (l.length : Int) := by omega
      have k2 : (l.length : Int) ≤ (c : Int) := by omega
      have c0 : wr.cell? ⟨w.heap.size, 0, none⟩ = some (.bool false) := RR.out.cell 0 (by simp)
      have c1 : wr.cell? ⟨w.heap.size, 1, none⟩ = some (.string ⟨#[]⟩) := RR.out.cell 1 (by simp)
      have c2 : wr.cell? ⟨w.heap.size, 2, none⟩ = some (.slice none 0 0) := RR.out.cell 2 (by simp)
      have f0 : wr.frozen? ⟨w.heap.size, 0, none⟩ = false := RR.out.frozen 0
      have f1 : wr.frozen? ⟨w.heap.size, 1, none⟩ = false := RR.out.frozen 1
      have f2 : wr.frozen? ⟨w.heap.size, 2, none⟩ = false := RR.out.frozen 2
      clear hend e0 hP IH
      go_wp2_with fail
      have P3 := put3 RR.out (.bool false) (.string ⟨#[]⟩) (.slice none 0 0)
      have J3 := LL.out.but.trans ((put3_but wr w.heap.size (.bool false) (.string ⟨#[]⟩) (.slice none 0 0)).below (Nat.le_refl _) LL.out.but.size)
      exact bodyPost_ret (v := .tuple #[.agg #[.bool false, .string ⟨#[]⟩, .slice none 0 0], .int .i64 (-1)]) (results_row2 Try.results15 _ _ w.heap.size 24 #[.bool false, .string ⟨#[]⟩, .slice none 0 0] (0, 0) _ rfl P3 Try.underlying24 rfl size24) rfl ⟨J3, rfl⟩
    · have k1 : (c : Int) < (l.length : Int) := by omega
      have k2 : ¬ (l.length : Int) ≤ (c : Int) := by omega
      have k5 : c < l.length := by omega
      have hhd : (l.drop c).head? = some l[c] := by rw [List.head?_drop, List.getElem?_eq_getElem k5]
      have hbc := bt_S l c k5
      by_cases h41 : bt ⟨l.toArray⟩ c = 41
      · have hPP := LL.out.close (by rw [hhd]; congr 1; exact UInt8.toNat_inj.1 (by show _ = 41; omega))
        rw [hP] at hPP
        subst hPP
        have k6 : (bt ⟨l.toArray⟩ c == 41) = true := by simpa using h41
        have c0 : wr.cell? ⟨w.heap.size, 0, none⟩ = some (.bool false) := RR.out.cell 0 (by simp)
        have c1 : wr.cell? ⟨w.heap.size, 1, none⟩ = some (.string ⟨#[]⟩) := RR.out.cell 1 (by simp)
        have c2 : wr.cell? ⟨w.heap.size, 2, none⟩ = some (.slice none 0 0) := RR.out.cell 2 (by simp)
        have f0 : wr.frozen? ⟨w.heap.size, 0, none⟩ = false := RR.out.frozen 0
        have f1 : wr.frozen? ⟨w.heap.size, 1, none⟩ = false := RR.out.frozen 1
        have f2 : wr.frozen? ⟨w.heap.size, 2, none⟩ = false := RR.out.frozen 2
        have n0 : wr.cell? ⟨w.heap.size + 1, 0, none⟩ = some (.bool false) := LL.out.nd.cell 0 (by simp)
        have n1 : wr.cell? ⟨w.heap.size + 1, 1, none⟩ = some (.string ⟨#[]⟩) := LL.out.nd.cell 1 (by simp)
        have n2 : wr.cell? ⟨w.heap.size + 1, 2, none⟩ = some (.slice va vm vc) := LL.out.nd.cell 2 (by simp)
        clear hend hP IH hhd hbc
        go_wp2_with fail
        have P3 := put3 RR.out (.bool false) (.string ⟨#[]⟩) (.slice va vm vc)
        have Q3 := put3_but wr w.heap.size (.bool false) (.string ⟨#[]⟩) (.slice va vm vc)
        have J3 := LL.out.but.trans (Q3.below (Nat.le_refl _) LL.out.but.size)
        have K1 : NAt wr (fun k => w.heap.size + 2 ≤ k) (.list acc) (.bool false) (S []) (.slice va vm vc) := NAt.of_row LL.out.own (LL.out.at_.keep (Nat.le_refl _) (fun k h _ => h.1) (fun k _ _ => rfl)) (fun k h => (LL.out.own.lt k h).1)
        have K2 := K1.keep (w' := ((wr.setCell ⟨w.heap.size, 0, none⟩ (.bool false)).setCell ⟨w.heap.size, 1, none⟩ (.string ⟨#[]⟩)).setCell ⟨w.heap.size, 2, none⟩ (.slice va vm vc)) (G := fun k => w.heap.size ≤ k) Q3.size (fun k h _ => by omega) (fun k h1 h2 => by rw [Q3.block k h2 (by omega)])
        have epos : (c : Int) + 1 = (l.length : Int) - ((l.drop (c + 1)).length : Int) := by simp; omega
        exact bodyPost_ret (v := .tuple #[.agg #[.bool false, .string ⟨#[]⟩, .slice va vm vc], .int .i64 ((c : Int) + 1)]) (results_row2 Try.results15 _ _ w.heap.size 24 #[.bool false, .string ⟨#[]⟩, .slice va vm vc] (0, 0) _ rfl P3 Try.underlying24 rfl size24) rfl ⟨J3, _, _, _, by rw [epos], K2⟩
      · have k6 : (bt ⟨l.toArray⟩ c == 41) = false := by simpa using h41
        have hne : ¬ (l.drop c).head? = some 41 := by
          rw [hhd]
          intro e
          simp only [Option.some.injEq] at e
          rw [e] at hbc
          exact h41 hbc
        have IHc := fun w1 => IH c w1 hcl
        clear IH hhd hbc
        cases hnp : nodeP d (l.drop c) with
        | none =>
          have hPP := LL.out.none hne hnp
          rw [hP] at hPP
          subst hPP
          simp only [hnp, ReadE] at IHc
          clear hend hP hnp hne
          go_wp2_with (go_at_call 15; refine (IHc _).mono ?_; rintro e w2 ⟨hB2, rfl⟩; have RR2 : Hid (IHolds w2 w.heap.size 24 [.bool false, .string ⟨#[]⟩, .slice none 0 0]) := RR.out.of_below hB2; have s2 := hB2.size; have m1 := RR2.out.lt; have m2 : ¬ w2.heap.size = w.heap.size := (by omega); have m3 : ¬ w.heap.size = w2.heap.size := (by omega); have c0 : w2.cell? ⟨w.heap.size, 0, none⟩ = some (.bool false) := RR2.out.cell 0 (by simp); have c1 : w2.cell? ⟨w.heap.size, 1, none⟩ = some (.string ⟨#[]⟩) := RR2.out.cell 1 (by simp); have c2 : w2.cell? ⟨w.heap.size, 2, none⟩ = some (.slice none 0 0) := RR2.out.cell 2 (by simp); have f0 : w2.frozen? ⟨w.heap.size, 0, none⟩ = false := RR2.out.frozen 0; have f1 : w2.frozen? ⟨w.heap.size, 1, none⟩ = false := RR2.out.frozen 1; have f2 : w2.frozen? ⟨w.heap.size, 2, none⟩ = false := RR2.out.frozen 2)
          have P3 := (put3 RR2.out (.bool false) (.string ⟨#[]⟩) (.slice none 0 0)).alloc zN
          have Q3 := put3_but w2 w.heap.size (.bool false) (.string ⟨#[]⟩) (.slice none 0 0)
          have hs3 := Q3.size
          have J3 := (LL.out.but.trans (hB2.mono LL.out.but.size)).trans ((Q3.below (Nat.le_refl _) (by omega)).alloc (by omega) zN)
          exact bodyPost_ret (v := .tuple #[.agg #[.bool false, .string ⟨#[]⟩, .slice none 0 0], .int .i64 (-1)]) (results_row2 Try.results15 _ _ w.heap.size 24 #[.bool false, .string ⟨#[]⟩, .slice none 0 0] (0, 0) _ rfl P3 Try.underlying24 rfl size24) rfl ⟨J3, rfl⟩
        | some q =>
          obtain ⟨n, r'⟩ := q
          have hlt := nodeP_len d _ n r' hnp
          have hsf := suf_drop (nodeP_suf d _ n r' hnp)
          have hrl : r'.length ≤ l.length := by
            have : (l.drop c).length ≤ l.length := by simp
            omega
          simp at hlt
          have ST := fun w2 w3 v' x y z o1 B2 hN o3 g3 p3 => LL.out.step (w2 := w2) (w3 := w3) (v' := v') (x := x) (y := y) (z := z) (o1 := o1) hne hnp B2 hN o3 g3 p3
          simp only [hnp, ReadE] at IHc
          have epos : (l.length : Int) - (r'.length : Int) = ((l.length - r'.length : Nat) : Int) := by omega
          rw [epos] at IHc
          generalize hE : l.length - r'.length = E at *
          have k7 : ¬ (E : Int) < 0 := by omega
          clear hend hP hnp hne epos hsf
          have n2 : wr.cell? ⟨w.heap.size + 1, 2, none⟩ = some (.slice va vm vc) := LL.out.nd.cell 2 (by simp)
          go_wp2_with (first | (go_at_call 15; refine (IHc _).mono ?_; rintro e w2 ⟨hB2, x, y, z, rfl, hN2⟩; obtain ⟨ab, bb, ca, cm, cc, rfl, rfl, rfl⟩ := hN2.form; have s2 := hB2.size; have B2 : Hid (Below wr.heap.size wr w2) := hB2; have N2 : Hid (NAt w2 (fun k => wr.heap.size ≤ k) n (.bool ab) (.string bb) (.slice ca cm cc)) := hN2; have M2 : Hid (IHolds w2 (w.heap.size + 1) 24 [.bool false, .string ⟨#[]⟩, .slice va vm vc]) := LL.out.nd.of_below hB2; have m1 := M2.out.lt; have m2 : ¬ w2.heap.size = w.heap.size + 1 := (by omega); have m3 : ¬ w.heap.size + 1 = w2.heap.size := (by omega); have n2' : w2.cell? ⟨w.heap.size + 1, 2, none⟩ = some (.slice va vm vc) := M2.out.cell 2 (by simp); have O3 : Hid (((w2.alloc (.cells #[.bool ab, .string bb, .slice ca cm cc] 24)).alloc (.cells #[.bool ab, .string bb, .slice ca cm cc] 24)).ownsRow (w.heap.size + 2) 24 3 (.slice va vm vc) T.length (flat T)) := ((own_but (g := 0) LL.out.own (But.of_below hB2) (by omega)).alloc _).alloc _; have Z3 : Hid (w.heap.size + 2 ≤ ((w2.alloc (.cells #[.bool ab, .string bb, .slice ca cm cc] 24)).alloc (.cells #[.bool ab, .string bb, .slice ca cm cc] 24)).heap.size) := (by show _ ≤ _; simp; omega); have W3 : Hid (∀ j u, [Value.bool ab, .string bb, .slice ca cm cc][j]? = some u → ((w2.alloc (.cells #[.bool ab, .string bb, .slice ca cm cc] 24)).alloc (.cells #[.bool ab, .string bb, .slice ca cm cc] 24)).cell? ((⟨w2.heap.size + 1, 0, none⟩ : Addr).add j) = some u) := (fun j u hu => by have := new3 (w2.alloc (.cells #[.bool ab, .string bb, .slice ca cm cc] 24)) (.bool ab) (.string bb) (.slice ca cm cc) j u hu; rw [show (w2.alloc (.cells #[.bool ab, .string bb, .slice ca cm cc] 24)).heap.size = w2.heap.size + 1 by simp] at this; exact this); clear hB2 hN2) | (at_builtin; refine wpList_append_own_at _ rfl (.tmp 51) (.tmp 53) 22 rfl (w.heap.size + 2) 24 i0 (.agg #[.bool false, .string ⟨#[]⟩, .slice none 0 0]) 3 48 Try.underlying22 hi0 hz0 hz1 hz2 rfl (by decide) (.slice va vm vc) T.length (flat T) rfl O3.out ⟨w2.heap.size + 1, 0, none⟩ 1 1 [.bool ab, .string bb, .slice ca cm cc] rfl rfl W3.out N2.out.one (by unfold maxLen; omega) (by omega) Z3.out ?_; intro v1 w3 hown1 hgrow1 hn1 hat1; have ND3 : Hid (IHolds w3 (w.heap.size + 1) 24 [.bool false, .string ⟨#[]⟩, .slice va vm vc]) := (by show IHolds _ _ _ _; unfold IHolds; rw [hgrow1.block (w.heap.size + 1) (by simp; omega) (fun e => by have := (LL.out.own.lt _ e.symm).1; omega), Lib.alloc_old _ _ _ (by simp; omega), Lib.alloc_old w2 _ _ m1]; exact M2.out); have cc2 : w3.cell? ⟨w.heap.size + 1, 2, none⟩ = some (.slice va vm vc) := ND3.out.cell 2 (by simp); have ff2 : w3.frozen? ⟨w.heap.size + 1, 2, none⟩ = false := ND3.out.frozen 2; have L4 : Hid (RS d l p w (w3.setCell ⟨w.heap.size + 1, 2, none⟩ v1) v1 E (acc ++ [n]) (T ++ [(.bool ab, .string bb, .slice ca cm cc)]) (k - 1)) := ST w2 w3 v1 _ _ _ _ B2.out N2.out hown1 hgrow1 hat1; obtain ⟨va1, vm1, vc1, hv1⟩ := owned_slice hown1; subst hv1; clear hown1 hgrow1 hn1 hat1))
          go_roundg (l.length - E)
          case measure => omega
          case rel => exact ⟨E, _, acc ++ [n], T ++ [(.bool ab, .string bb, .slice ca cm cc)], k - 1, rfl, by omega, L4.out⟩
theorem read_any : ∀ d, d ≤ 12 → ReadC d
  | 0, _ => by
    intro l c w hl hc
    by_cases he : c = l.length
    · subst he
      rw [List.drop_length, nodeP_nil]
      exact read_end l _ w
    · rw [nodeP]
      by_cases hh : (l.drop c).head? = some 40
      · rw [if_pos hh]
        exact read_zero l c w hl (by omega) hh
      · rw [if_neg hh]
        exact read_leaf l c _ w hl (by omega) hh
  | d + 1, hd => by
    intro l c w hl hc
    by_cases he : c = l.length
    · subst he
      rw [List.drop_length, nodeP_nil]
      exact read_end l _ w
    · rw [nodeP]
      by_cases hh : (l.drop c).head? = some 40
      · rw [if_pos hh]
        exact read_list d hd (read_any d (by omega)) l c w hl (by omega) hh
      · rw [if_neg hh]
        exact read_leaf l c _ w hl (by omega) hh
end Go.Proofs.Ytlogilmeefcipaa
