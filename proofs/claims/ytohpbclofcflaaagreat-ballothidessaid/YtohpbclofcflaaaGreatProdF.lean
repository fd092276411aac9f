/- Product: the closure and the face. -/
import Derived.Test.YtohpbclofcflaaaGreatProd
set_option linter.unusedSimpArgs false
set_option linter.unusedVariables false
namespace Go.Proofs.YtohpbclofcflaaaGreat
open Go.RowKit Go.Deep Go.PlainAid

set_option maxRecDepth 100000 in
set_option maxHeartbeats 2000000 in
theorem on48_78 {w : World} {z : Int} {G : Array Value} {p1 p2 : Nat} {t : ByteArray} {c : Int} (hG : gz.size = G.size) (hi : (Tryz.prog.info? 97).map (·.size) = some G.size) (h1 : G.all (·.oneCell') = true)
    (CG : Hid (∀ W, Calls Tryz.prog 73 #[.int .i64 z] W fun e w' => e = .returned (.tuple #[.agg G, .bool true]) ∧ Below W.heap.size W w')) (HF : Hid (∀ W g, IHolds W g 97 G.toList → Below w.heap.size w W → Calls Tryz.prog 59 #[.pointer (some ⟨g, 0, none⟩), .pointer (some ⟨p1, 0, none⟩), .pointer (some ⟨p2, 0, none⟩)] W fun e w' => e = .returned (.tuple #[.string t, .int .i64 c]) ∧ Below W.heap.size W w')) :
    Calls Tryz.prog 58 #[.int .i64 z, .func (.func 59) #[] #[.pointer (some ⟨p1, 0, none⟩), .pointer (some ⟨p2, 0, none⟩)]] w fun e w' => e = .returned (.tuple #[.string t, .int .i64 c]) ∧ Below w.heap.size w w' := by
  go_enter Tryz.func58, Tryz.ntmps58
  go_wp2_with fail
  refine (CG.out w).mono ?_
  rintro e U1 ⟨rfl, hb⟩
  have B : Hid (Below w.heap.size w U1) := hb
  clear hb
  have hg : (U1.alloc (.cells gz 97)).heap[U1.heap.size]? = some (.cells gz 97 (0, 0)) := by
    have h := IHolds.new U1 97 gz.toList
    unfold IHolds at h
    rw [Array.toArray_toList] at h
    exact h
  have J : Hid (IHolds (U1.alloc (.cells G 97)) U1.heap.size 97 G.toList) := by
    have h := IHolds.new U1 97 G.toList
    rw [Array.toArray_toList] at h
    exact h
  replace B := aB B (nB U1 (.cells G 97))
  go_wp2_with (refine wpList_store_row rfl 97 (.tmp 6) (.tmp 12) rfl U1.heap.size G rfl rfl 97 gz hg hi hG h1 ?_; rw [World.setRow_alloc_new]; clear hg)
  generalize U1.alloc (.cells G 97) = U2 at *
  refine (HF.out U2 _ J.out B.out).mono ?_
  rintro e U3 ⟨rfl, hb⟩
  replace B := aB B hb
  clear hb
  go_wp2_with fail
  go_ret2
  exact ⟨rfl, B.out⟩
set_option maxRecDepth 100000 in
set_option maxHeartbeats 2000000 in
theorem on48_78_no {w : World} {z : Int} {G : Array Value} {p1 p2 : Nat}  (hG : gz.size = G.size) (hi : (Tryz.prog.info? 97).map (·.size) = some G.size) (h1 : G.all (·.oneCell') = true)
    (CG : Hid (∀ W, Calls Tryz.prog 73 #[.int .i64 z] W fun e w' => e = .returned (.tuple #[.agg G, .bool false]) ∧ Below W.heap.size W w'))  :
    Calls Tryz.prog 58 #[.int .i64 z, .func (.func 59) #[] #[.pointer (some ⟨p1, 0, none⟩), .pointer (some ⟨p2, 0, none⟩)]] w fun e w' => e = .returned (.tuple #[.string ⟨#[]⟩, .int .i64 1]) ∧ Below w.heap.size w w' := by
  go_enter Tryz.func58, Tryz.ntmps58
  go_wp2_with fail
  refine (CG.out w).mono ?_
  rintro e U1 ⟨rfl, hb⟩
  have B : Hid (Below w.heap.size w U1) := hb
  clear hb
  have hg : (U1.alloc (.cells gz 97)).heap[U1.heap.size]? = some (.cells gz 97 (0, 0)) := by
    have h := IHolds.new U1 97 gz.toList
    unfold IHolds at h
    rw [Array.toArray_toList] at h
    exact h
  have J : Hid (IHolds (U1.alloc (.cells G 97)) U1.heap.size 97 G.toList) := by
    have h := IHolds.new U1 97 G.toList
    rw [Array.toArray_toList] at h
    exact h
  replace B := aB B (nB U1 (.cells G 97))
  go_wp2_with (refine wpList_store_row rfl 97 (.tmp 6) (.tmp 12) rfl U1.heap.size G rfl rfl 97 gz hg hi hG h1 ?_; rw [World.setRow_alloc_new]; clear hg)
  go_ret2
  exact ⟨rfl, B.out⟩
set_option maxRecDepth 100000 in
set_option maxHeartbeats 2000000 in
theorem clos78_longA {w : World} {g p1 p2 la ln cx cn : Nat} {ax an : Option Addr}  (J1 : Hid (IHolds w p1 63 [.slice ax la cx])) (J2 : Hid (IHolds w p2 63 [.slice an ln cn])) (h : (256 : Int) < (la : Int))  :
    Calls Tryz.prog 59 #[.pointer (some ⟨g, 0, none⟩), .pointer (some ⟨p1, 0, none⟩), .pointer (some ⟨p2, 0, none⟩)] w fun e w' => e = .returned (.tuple #[.string ⟨#[]⟩, .int .i64 3]) ∧ Below w.heap.size w w' := by
  have z1 : w.cell? ⟨p1, 0, none⟩ = some (.slice ax la cx) := J1.out.cell 0 (by simp)
  have z2 : w.cell? ⟨p2, 0, none⟩ = some (.slice an ln cn) := J2.out.cell 0 (by simp)
  go_enter Tryz.func59, Tryz.ntmps59
  go_wp2_with fail
  go_ret2
  exact ⟨rfl, Below.refl _ _⟩
set_option maxRecDepth 100000 in
set_option maxHeartbeats 2000000 in
theorem clos78_longN {w : World} {g p1 p2 la ln cx cn : Nat} {ax an : Option Addr}  (J1 : Hid (IHolds w p1 63 [.slice ax la cx])) (J2 : Hid (IHolds w p2 63 [.slice an ln cn])) (h0 : ¬ (256 : Int) < (la : Int)) (h : (256 : Int) < (ln : Int))  :
    Calls Tryz.prog 59 #[.pointer (some ⟨g, 0, none⟩), .pointer (some ⟨p1, 0, none⟩), .pointer (some ⟨p2, 0, none⟩)] w fun e w' => e = .returned (.tuple #[.string ⟨#[]⟩, .int .i64 3]) ∧ Below w.heap.size w w' := by
  have z1 : w.cell? ⟨p1, 0, none⟩ = some (.slice ax la cx) := J1.out.cell 0 (by simp)
  have z2 : w.cell? ⟨p2, 0, none⟩ = some (.slice an ln cn) := J2.out.cell 0 (by simp)
  go_enter Tryz.func59, Tryz.ntmps59
  go_wp2_with fail
  go_ret2
  exact ⟨rfl, Below.refl _ _⟩
set_option maxRecDepth 100000 in
set_option maxHeartbeats 2000000 in
theorem clos78_form {w : World} {g p1 p2 la ln cx cn : Nat} {ax an : Option Addr}  (J1 : Hid (IHolds w p1 63 [.slice ax la cx])) (J2 : Hid (IHolds w p2 63 [.slice an ln cn])) (h0 : ¬ (256 : Int) < (la : Int)) (h1 : ¬ (256 : Int) < (ln : Int)) (hne : (la : Int) ≠ (ln : Int)) (hne2 : ((la : Int) != (ln : Int)) = true)  :
    Calls Tryz.prog 59 #[.pointer (some ⟨g, 0, none⟩), .pointer (some ⟨p1, 0, none⟩), .pointer (some ⟨p2, 0, none⟩)] w fun e w' => e = .returned (.tuple #[.string ⟨#[]⟩, .int .i64 2]) ∧ Below w.heap.size w w' := by
  have z1 : w.cell? ⟨p1, 0, none⟩ = some (.slice ax la cx) := J1.out.cell 0 (by simp)
  have z2 : w.cell? ⟨p2, 0, none⟩ = some (.slice an ln cn) := J2.out.cell 0 (by simp)
  go_enter Tryz.func59, Tryz.ntmps59
  go_wp2_with fail
  go_ret2
  exact ⟨rfl, Below.refl _ _⟩
set_option maxRecDepth 100000 in
set_option maxHeartbeats 2000000 in
theorem clos78_ok {w : World} {g p1 p2 la ln cx cn : Nat} {ax an : Option Addr} {t : ByteArray} {c : Int} (J1 : Hid (IHolds w p1 63 [.slice ax la cx])) (J2 : Hid (IHolds w p2 63 [.slice an ln cn])) (h0 : ¬ (256 : Int) < (la : Int)) (hne : ln = la) (C : Hid (Calls Tryz.prog 60 #[.pointer (some ⟨g, 0, none⟩), .slice ax la cx, .slice an la cn] w fun e w' => e = .returned (.tuple #[.string t, .int .i64 c]) ∧ Below w.heap.size w w')) :
    Calls Tryz.prog 59 #[.pointer (some ⟨g, 0, none⟩), .pointer (some ⟨p1, 0, none⟩), .pointer (some ⟨p2, 0, none⟩)] w fun e w' => e = .returned (.tuple #[.string t, .int .i64 c]) ∧ Below w.heap.size w w' := by
  subst hne
  have z1 : w.cell? ⟨p1, 0, none⟩ = some (.slice ax ln cx) := J1.out.cell 0 (by simp)
  have z2 : w.cell? ⟨p2, 0, none⟩ = some (.slice an ln cn) := J2.out.cell 0 (by simp)
  go_enter Tryz.func59, Tryz.ntmps59
  go_wp2_with fail
  refine C.out.mono ?_
  rintro e V1 ⟨rfl, hb⟩
  have B : Hid (Below w.heap.size w V1) := hb
  clear hb
  go_wp2_with fail
  go_ret2
  exact ⟨rfl, B.out⟩
set_option maxRecDepth 100000 in
set_option maxHeartbeats 2000000 in
theorem product_face {w : World} {z c : Int} {t : ByteArray} {ax an : Option Addr} {la ln cx cn : Nat}
    (C : Hid (∀ W p1 p2, IHolds W p1 63 [.slice ax la cx] → IHolds W p2 63 [.slice an ln cn] → Below w.heap.size w W → Calls Tryz.prog 58 #[.int .i64 z, .func (.func 59) #[] #[.pointer (some ⟨p1, 0, none⟩), .pointer (some ⟨p2, 0, none⟩)]] W fun e w' => e = .returned (.tuple #[.string t, .int .i64 c]) ∧ Below W.heap.size W w')) :
    Calls Tryz.prog 35 #[.int .i64 z, .slice ax la cx, .slice an ln cn] w fun e w' => e = .returned (.tuple #[.string t, .int .i64 c]) ∧ Below w.heap.size w w' := by
  have Jp1 : Hid (IHolds ((w.alloc (.cells #[.slice ax la cx] 63)).alloc (.cells #[.slice an ln cn] 63)) (w.heap.size) 63 [.slice ax la cx]) := by
    have q := IHolds.new w 63 [.slice ax la cx]
    exact (q.alloc _)
  have Jp2 : Hid (IHolds ((w.alloc (.cells #[.slice ax la cx] 63)).alloc (.cells #[.slice an ln cn] 63)) (w.heap.size + 1) 63 [.slice an ln cn]) := by
    have q := IHolds.new (w.alloc (.cells #[.slice ax la cx] 63)) 63 [.slice an ln cn]
    simp only [World.size_alloc, Nat.add_assoc, Nat.reduceAdd] at q
    exact q
  have B : Hid (Below w.heap.size w ((w.alloc (.cells #[.slice ax la cx] 63)).alloc (.cells #[.slice an ln cn] 63))) := (((Below.refl _ w).alloc (Nat.le_refl _) _).alloc (by simp only [World.size_alloc]; omega) _)
  go_enter Tryz.func35, Tryz.ntmps35
  go_wp2_with fail
  generalize ((w.alloc (.cells #[.slice ax la cx] 63)).alloc (.cells #[.slice an ln cn] 63)) = V0 at *
  refine (C.out V0 _ _ Jp1.out Jp2.out B.out).mono ?_
  rintro e V1 ⟨rfl, hb⟩
  replace B := aB B hb
  clear hb
  go_wp2_with fail
  go_ret2
  exact ⟨rfl, B.out⟩
section
variable {z : Int} {G : Array Value} {S Wd M low one sq Ri Wd2 M2 low2 one2 sq2 Ri2 : Nat}
theorem prod_longA (k : KD z G S Wd M low one sq Ri Wd2 M2 low2 one2 sq2 Ri2) (w : World) {ax an : Option Addr} {la ln cx cn : Nat} (h : 256 < la) :
    Calls Tryz.prog 35 #[.int .i64 z, .slice ax la cx, .slice an ln cn] w fun e w' => e = .returned (.tuple #[.string ⟨#[]⟩, .int .i64 3]) ∧ Below w.heap.size w w' :=
  product_face (fun W p1 p2 j1 j2 hb => on48_78 k.hG k.hi k.h1 k.CG (fun W2 g hI hb2 => clos78_longA (j1.of_below hb2) (j2.of_below hb2) (by omega)))
theorem prod_longN (k : KD z G S Wd M low one sq Ri Wd2 M2 low2 one2 sq2 Ri2) (w : World) {ax an : Option Addr} {la ln cx cn : Nat} (h0 : ¬ 256 < la) (h : 256 < ln) :
    Calls Tryz.prog 35 #[.int .i64 z, .slice ax la cx, .slice an ln cn] w fun e w' => e = .returned (.tuple #[.string ⟨#[]⟩, .int .i64 3]) ∧ Below w.heap.size w w' :=
  product_face (fun W p1 p2 j1 j2 hb => on48_78 k.hG k.hi k.h1 k.CG (fun W2 g hI hb2 => clos78_longN (j1.of_below hb2) (j2.of_below hb2) (by omega) (by omega)))
theorem prod_form (k : KD z G S Wd M low one sq Ri Wd2 M2 low2 one2 sq2 Ri2) (w : World) {ax an : Option Addr} {la ln cx cn : Nat} (h0 : ¬ 256 < la) (h : ¬ 256 < ln) (hne : la ≠ ln) :
    Calls Tryz.prog 35 #[.int .i64 z, .slice ax la cx, .slice an ln cn] w fun e w' => e = .returned (.tuple #[.string ⟨#[]⟩, .int .i64 2]) ∧ Below w.heap.size w w' :=
  product_face (fun W p1 p2 j1 j2 hb => on48_78 k.hG k.hi k.h1 k.CG (fun W2 g hI hb2 => clos78_form (j1.of_below hb2) (j2.of_below hb2) (by omega) (by omega) (by omega) (by simp [bne]; omega)))
theorem prod_yes (k : KD z G S Wd M low one sq Ri Wd2 M2 low2 one2 sq2 Ri2) (w : World) {xs ns : List ByteArray} {ax an : Option Addr} {n cx cn : Nat} (hx : SAt w ax xs) (hn : SAt w an ns) (hlx : xs.length = n) (hln : ns.length = n) (h9 : n ≤ 256) :
    Calls Tryz.prog 35 #[.int .i64 z, .slice ax n cx, .slice an n cn] w fun e w' => e = .returned (.tuple #[.string (prodT S M M2 xs ns), .int .i64 (code S M xs ns : Int)]) ∧ Below w.heap.size w w' :=
  product_face (fun W p1 p2 j1 j2 hb => on48_78 k.hG k.hi k.h1 k.CG (fun W2 g hI hb2 => clos78_ok (j1.of_below hb2) (j2.of_below hb2) (by omega) rfl (product_any k (k.gh W2 g hI) xs ns ((hx.of_below hb).of_below hb2) ((hn.of_below hb).of_below hb2) hlx hln h9)))
theorem prod_none {G0 : Array Value} (w : World) {ax an : Option Addr} {la ln cx cn : Nat} (hG : gz.size = G0.size) (hi : (Tryz.prog.info? 97).map (·.size) = some G0.size) (h1 : G0.all (·.oneCell') = true)
    (CG : Hid (∀ W, Calls Tryz.prog 73 #[.int .i64 z] W fun e w' => e = .returned (.tuple #[.agg G0, .bool false]) ∧ Below W.heap.size W w')) :
    Calls Tryz.prog 35 #[.int .i64 z, .slice ax la cx, .slice an ln cn] w fun e w' => e = .returned (.tuple #[.string ⟨#[]⟩, .int .i64 1]) ∧ Below w.heap.size w w' :=
  product_face (fun W p1 p2 j1 j2 hb => on48_78_no hG hi h1 CG)
end
end Go.Proofs.YtohpbclofcflaaaGreat
