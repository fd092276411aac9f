/- The walk of the document's FromLetters. -/
import Derived.Test.YtlogilmeefcipaaPlain
set_option linter.unusedSimpArgs false
set_option linter.unusedVariables false
set_option maxRecDepth 100000
namespace Go.Proofs.Ytlogilmeefcipaa
open Go.RowKit Go.Deep Go.PlainAid

/-- A block of bytes. -/
def BH (w : World) (g : Nat) (l : List Nat) : Prop := w.heap[g]? = some (.cells (l.map Y).toArray 5)
theorem BH.lt {w : World} {g : Nat} {l : List Nat} (h : BH w g l) : g < w.heap.size := (Array.getElem?_eq_some_iff.1 h).1
theorem BH.cell {w : World} {g : Nat} {l : List Nat} (h : BH w g l) (i : Nat) (hi : i < l.length) : w.cell? ⟨g, i, none⟩ = some (Y l[i]) := by
  unfold BH at h
  simp [World.cell?, h, hi]
theorem BH.frozen {w : World} {g : Nat} {l : List Nat} (h : BH w g l) (i : Nat) : w.frozen? ⟨g, i, none⟩ = false := by
  unfold BH at h
  simp [World.frozen?, h]
theorem BH.set {w : World} {g : Nat} {l : List Nat} (h : BH w g l) (i : Nat) (x : Nat) : BH (w.setCell ⟨g, i, none⟩ (Y x)) g (l.set i x) := by
  unfold BH at *
  simp [World.setCell, Array.getElem?_modify, h]
theorem BH.owned {w : World} {g B : Nat} {l : List Nat} (h : BH w g l) (hB : B ≤ g) (hl : l.length ≤ 1000000) : w.ownsRow B 5 1 (.slice (some ⟨g, 0, none⟩) l.length l.length) l.length (l.map Y) := by
  refine ⟨by simp, Or.inr ⟨g, l.length, (l.map Y).toArray, rfl, hB, h, Nat.le_refl _, by unfold maxLen; omega, by simp, ?_⟩⟩
  rw [Nat.mul_one, List.take_of_length_le (by simp)]
theorem makeBytes (z : Int) (n : Nat) (hz : z = (n : Int)) (hn : n ≤ 4294967296) (w : World) : (Instr.makeSlice 35 (.int .i64 z) (.int .i64 z)).run Try.prog w = .ok (.slice (some ⟨w.heap.size, 0, none⟩) n n) (w.alloc (.cells (Array.replicate n (Y 0)) 5)) := by
  subst hz
  have := run_make_row' (P := Try.prog) 35 5 (.int .u8 0) 1 Try.underlying35 info5 rfl .i64 .i64 n (by omega) (by omega) w
  rw [this]
  have e : madeCells #[.int .u8 0] n = Array.replicate n (Y 0) := by
    apply Array.toList_inj.1
    rw [toList_madeCells_one]
    simp
  rw [e]
set_option maxHeartbeats 4000000 in
theorem refFrom_any (w : World) (s : ByteArray) (hs : s.size ≤ 1100000) :
    Calls Try.prog 11 #[.string s] w fun e w' => e = .returned (.tuple #[.string (fromS s).1, .int .i64 ((fromS s).2 : Int)]) ∧ Below w.heap.size w w' := by
  obtain ⟨i0, hi0, hz0, hz1, hz2⟩ := info_parts info3
  have hsb := get_bs s
  go_enter Try.func11, Try.ntmps11
  go_wp2_with fail
  go_loopg [4, 5] s.size (fun gk v4 v5 wr => ∃ (r : Nat) (v : Value), v = v4 ∧ r + gk = s.size ∧ v5 = .int .i64 (r : Int) ∧ wr.ownsRow w.heap.size 3 1 v (sls ((bs s).take r)).length ((sls ((bs s).take r)).map J) ∧ Below w.heap.size w wr)
  case atStart => exact ⟨0, _, rfl, by omega, rfl, World.ownsRow_nil _ _ _ _, Below.refl _ _⟩
  case round =>
    obtain ⟨r, v, rfl, hrg, rfl, ho, hB⟩ := hrel
    have O : Hid (wr.ownsRow w.heap.size 3 1 v (sls ((bs s).take r)).length ((sls ((bs s).take r)).map J)) := ho
    have B : Hid (Below w.heap.size w wr) := hB
    clear ho hB
    by_cases hp : r < s.size
    · have hpl : r < (bs s).length := by rw [bs_length]; exact hp
      have HX : Hid (sls ((bs s).take (r + 1)) = if bt s r = 45 then sls ((bs s).take r) else sls ((bs s).take r) ++ [sv (bt s r)]) := sls_next s r hpl
      have LM : (sls ((bs s).take r)).length ≤ 1100000 := by
        have := sls_length ((bs s).take r)
        rw [List.length_take] at this
        omega
      have rlt : (r : Int) < (s.size : Int) := by omega
      have c9 := bt_lt s r
      generalize hmm : sls ((bs s).take r) = m at *
      clear hmm
      by_cases h45 : bt s r = 45
      · have E : Hid (sls ((bs s).take (r + 1)) = m) := by show _ = _; rw [HX.out, if_pos h45]
        have k45 : ((bt s r : Int) != 45) = false := by simp; omega
        clear h45 HX
        go_wp2_with fail
        go_roundg (gk - 1)
        case measure => omega
        case rel => exact ⟨r + 1, v, rfl, by omega, by go_num, by rw [E.out]; exact O.out, B.out⟩
      · have E : Hid (sls ((bs s).take (r + 1)) = m ++ [sv (bt s r)]) := by show _ = _; rw [HX.out, if_neg h45]
        have k45 : ((bt s r : Int) != 45) = true := by simp; omega
        have CV : Hid (∀ W, Calls Try.prog 14 #[.int .u8 (bt s r : Int)] W fun e w' => e = .returned (.int .i64 (sv (bt s r))) ∧ Below W.heap.size W w') := fun W => refValue_any W (bt s r) c9
        have R9 := sv_range c9
        clear h45 HX
        generalize sv (bt s r) = x at *
        go_wp2_with fail
        refine (CV.out wr).mono ?_
        rintro e W1 ⟨rfl, hb⟩
        replace B : Hid (Below w.heap.size w W1) := B.out.trans (hb.mono B.out.size)
        replace O : Hid (W1.ownsRow w.heap.size 3 1 v m.length (m.map J)) := ownsRow_below O.out hb
        clear hb CV k45
        have O2 : Hid ((W1.alloc (.cells #[.int .i64 x] 3)).ownsRow w.heap.size 3 1 v m.length (m.map J)) := O.out.alloc _
        have C2 : Hid (∀ jj u, [J x][jj]? = some u → (W1.alloc (.cells #[.int .i64 x] 3)).cell? ((⟨W1.heap.size, 0, none⟩ : Addr).add jj) = some u) := fun jj u hu => by
          match jj, hu with
          | 0, hu => simp at hu; subst hu; simp [Addr.add]
        have B2 : Hid (Below w.heap.size w (W1.alloc (.cells #[.int .i64 x] 3))) := B.out.alloc B.out.size _
        go_wp2_with (at_builtin; refine wpList_append_own _ rfl (.tmp 24) (.tmp 29) 43 rfl w.heap.size 3 i0 (.int .i64 0) 1 8 Try.underlying43 hi0 hz0 hz1 hz2 rfl (by decide) v m.length (m.map J) rfl O2.out ⟨W1.heap.size, 0, none⟩ 1 1 [J x] rfl rfl C2.out (fun u hu => by simp at hu; subst hu; rfl) (by unfold maxLen; omega) (by omega) B2.out.size ?_; intro v1 w1 hown1 hgrow1 hn1; have O3 : Hid (w1.ownsRow w.heap.size 3 1 v1 (m.length + 1) (m.map J ++ [J x])) := hown1; have B3 : Hid (Below w.heap.size w w1) := B2.out.grown hgrow1 B2.out.size (fun k hk => (O2.out.lt k hk).1); clear hown1 hgrow1 hn1)
        go_roundg (gk - 1)
        case measure => omega
        case rel => exact ⟨r + 1, v1, rfl, by omega, by go_num, by rw [E.out, List.length_append, List.map_append]; exact O3.out, B3.out⟩
    · obtain rfl : r = s.size := by omega
      have E : Hid ((bs s).take s.size = bs s) := by show _ = _; rw [← bs_length s, List.take_length]
      rw [E.out] at O
      have knl : ¬ ((s.size : Nat) : Int) < (s.size : Int) := by omega
      have LM : (sls (bs s)).length ≤ 1100000 := by have := sls_length (bs s); rw [bs_length] at this; omega
      have FBAD : Hid (okB (sls (bs s)) = false ∨ sls (bs s) = [] → fromS s = (⟨#[]⟩, 2)) := fun h => fromS_bad h
      have GOOD : Hid (okB (sls (bs s)) = true → sls (bs s) ≠ [] → ∃ i c, (sls (bs s)).map J = i.map Z ++ [Z c] ∧ (∀ d ∈ i, d < 32) ∧ c < 37 ∧ fromS s = fromV i c) := fun h1 h2 => by
        obtain ⟨i, c, e1, e2, e3, e4⟩ := good_parts h1 h2
        exact ⟨i, c, e4, e2, e3, fromS_good h1 e1⟩
      have RNG : Hid (∀ x ∈ sls (bs s), -1 ≤ x ∧ x ≤ 36) := sls_range s
      clear E
      go_upto_region 7 with fail
      clear knl hsb
      generalize sls (bs s) = m at *
      obtain ⟨va, vc, hv, hvc, _, hV⟩ := VRow.of_owned O.out
      rw [List.length_map] at hv hvc
      subst hv
      have HR : Hid (VRow wr va (m.map J)) := hV
      clear hV O
      by_cases h0 : m.length = 0
      · have HF : Hid (fromS s = (⟨#[]⟩, 2)) := FBAD.out (Or.inr (List.length_eq_zero_iff.1 h0))
        have k0 : (m.length : Int) = 0 := by omega
        clear FBAD GOOD RNG h0
        go_wp2_with fail
        go_ret2
        exact ⟨by rw [HF.out]; rfl, B.out⟩
      have k0 : ((m.length : Int) == 0) = false := beq_eq_false_iff_ne.2 (by omega)
      go_upto_region 9 with fail
      clear k0
      go_wp2_with fail
      go_loopg [6, 7, 36] m.length (fun gk v6 v7 v36 wq => ∃ r : Nat, r + gk = m.length ∧ v36 = .int .i64 (r : Int) ∧ (∀ j (h : j < m.length), j < r → 0 ≤ m[j] ∧ (j < m.length - 1 → m[j] < 32)) ∧ wq = wr)
      case atStart => exact ⟨0, by omega, rfl, fun j h hj => by omega, rfl⟩
      case round =>
        obtain ⟨r, hrg2, rfl, hall, rfl⟩ := hrel
        have ALL : Hid (∀ j (h : j < m.length), j < r → 0 ≤ m[j] ∧ (j < m.length - 1 → m[j] < 32)) := hall
        clear hall
        by_cases hr2 : r < m.length
        · obtain ⟨gb, go, rfl, hc⟩ := HR.out r (by simpa using hr2)
          rw [List.getElem_map] at hc
          have R9 := RNG.out m[r] (List.getElem_mem _)
          have BAD : Hid (m[r] < 0 ∨ (32 ≤ m[r] ∧ r < m.length - 1) → fromS s = (⟨#[]⟩, 2)) := fun h => FBAD.out (Or.inl (by
            cases hq : okB m with
            | false => rfl
            | true =>
              have := (okB_iff m).1 hq r hr2
              omega))
          have NEXT : Hid (0 ≤ m[r] → (r < m.length - 1 → m[r] < 32) → ∀ j (h : j < m.length), j < r + 1 → 0 ≤ m[j] ∧ (j < m.length - 1 → m[j] < 32)) := fun h1 h2 j h hj => by
            by_cases e : j = r
            · subst e; exact ⟨h1, h2⟩
            · exact ALL.out j h (by omega)
          have rlt : (r : Int) < (m.length : Int) := by omega
          generalize m[r] = x at *
          clear ALL
          by_cases hneg : x < 0
          · have HF : Hid (fromS s = (⟨#[]⟩, 2)) := BAD.out (Or.inl hneg)
            clear BAD NEXT
            go_wp2_with fail
            go_ret2
            exact ⟨by rw [HF.out]; rfl, B.out⟩
          · by_cases h32 : 32 ≤ x
            · by_cases hlast : r < m.length - 1
              · have HF : Hid (fromS s = (⟨#[]⟩, 2)) := BAD.out (Or.inr ⟨h32, hlast⟩)
                have kl : (r : Int) < (m.length : Int) - 1 := by omega
                clear BAD NEXT
                go_wp2_with fail
                go_ret2
                exact ⟨by rw [HF.out]; rfl, B.out⟩
              · have NN := NEXT.out (by omega) (fun h => absurd h hlast)
                have HNN : Hid (∀ j (h : j < m.length), j < r + 1 → 0 ≤ m[j] ∧ (j < m.length - 1 → m[j] < 32)) := NN
                have kl : ¬ (r : Int) < (m.length : Int) - 1 := by omega
                clear BAD NEXT NN
                go_wp2_with fail
                go_roundg (gk - 1)
                case measure => omega
                case rel => exact ⟨r + 1, by omega, by go_num, HNN.out, rfl⟩
            · have NN := NEXT.out (by omega) (fun h => by omega)
              have HNN : Hid (∀ j (h : j < m.length), j < r + 1 → 0 ≤ m[j] ∧ (j < m.length - 1 → m[j] < 32)) := NN
              clear BAD NEXT NN
              go_wp2_with fail
              go_roundg (gk - 1)
              case measure => omega
              case rel => exact ⟨r + 1, by omega, by go_num, HNN.out, rfl⟩
        · obtain rfl : r = m.length := by omega
          have OKM : okB m = true := (okB_iff m).2 (fun j h => ALL.out j h h)
          obtain ⟨i, c, e1, e2, e3, e4⟩ := GOOD.out OKM (fun e => h0 (by rw [e]; rfl))
          have hml : m.length = i.length + 1 := by have := congrArg List.length e1; simpa using this
          rw [e1] at HR
          obtain ⟨ab, ao, rfl, hcell⟩ := HR.out.last
          rw [List.length_map] at hcell
          have VI : Hid (VRow wr (some ⟨ab, ao, none⟩) (i.map Z)) := HR.out.init
          have HE : Hid (fromS s = fromV i c) := e4
          have HI : Hid (∀ d ∈ i, d < 32) := e2
          clear ALL OKM GOOD FBAD RNG HR e1 e4 e2
          have hvc2 : i.length + 1 ≤ vc := by omega
          have kk : (i.length : Int) + 1 - 1 = (i.length : Int) := by omega
          have kvc : (i.length : Int) ≤ (vc : Int) := by omega
          have kil : (i.length : Int) < (i.length : Int) + 1 := by omega
          go_upto_region 17 with fail
          clear hcell
          have F1 : Hid (103 < i.length → fromS s = (⟨#[]⟩, 3)) := fun h => by rw [HE.out]; unfold fromV; rw [if_pos h]
          have F2 : Hid (¬ 103 < i.length → sgn (5 * i.length / 8) ≠ i.length → fromS s = (⟨#[]⟩, 2)) := fun h h2 => by rw [HE.out]; unfold fromV; rw [if_neg h, if_pos h2]
          have F3 : Hid (¬ 103 < i.length → ¬ sgn (5 * i.length / 8) ≠ i.length → chk i ≠ c → fromS s = (⟨#[]⟩, 8)) := fun h h2 h3 => by rw [HE.out]; unfold fromV; rw [if_neg h, if_neg h2, if_pos h3]
          have F4 : Hid (¬ 103 < i.length → ¬ sgn (5 * i.length / 8) ≠ i.length → ¬ chk i ≠ c → fromS s = txtV i) := fun h h2 h3 => by rw [HE.out]; unfold fromV; rw [if_neg h, if_neg h2, if_neg h3]
          clear kk kvc kil hml h0 hrg hrg2 hp hr2 LM hvc HE
          by_cases h103 : 103 < i.length
          · have HF : Hid (fromS s = (⟨#[]⟩, 3)) := F1.out h103
            have k1 : (103 : Int) < (i.length : Int) := by omega
            clear F1 F2 F3 F4
            go_wp2_with fail
            go_ret2
            exact ⟨by rw [HF.out]; rfl, B.out⟩
          have k1 : ¬ (103 : Int) < (i.length : Int) := by omega
          have G2 : Hid (sgn (5 * i.length / 8) ≠ i.length → fromS s = (⟨#[]⟩, 2)) := fun h => F2.out h103 h
          have G3 : Hid (¬ sgn (5 * i.length / 8) ≠ i.length → chk i ≠ c → fromS s = (⟨#[]⟩, 8)) := fun h h2 => F3.out h103 h h2
          have G4 : Hid (¬ sgn (5 * i.length / 8) ≠ i.length → ¬ chk i ≠ c → fromS s = txtV i) := fun h h2 => F4.out h103 h h2
          obtain ⟨n8, hn8⟩ : ∃ n8, n8 = 5 * i.length / 8 := ⟨_, rfl⟩
          have HN8 : Hid (n8 = 5 * i.length / 8) := hn8
          rw [← hn8] at G2 G3 G4
          obtain ⟨sg9, hsg9⟩ : ∃ sg9, sg9 = sgn n8 := ⟨_, rfl⟩
          rw [← hsg9] at G2 G3 G4
          have n8b : n8 ≤ 64 := by omega
          have s9 : sg9 ≤ 200 := by rw [hsg9]; unfold sgn; omega
          have kn8 : (5 * (i.length : Int)).tdiv 8 = (n8 : Int) := by rw [Int.tdiv_eq_ediv_of_nonneg (by omega)]; omega
          have ksg : (8 * (n8 : Int) + 4).tdiv 5 = (sg9 : Int) := by rw [Int.tdiv_eq_ediv_of_nonneg (by omega), hsg9]; unfold sgn; omega
          clear F1 F2 F3 F4 hn8 hsg9
          go_upto_region 20 with fail
          clear k1 kn8
          by_cases hsg : sg9 ≠ i.length
          · have HF : Hid (fromS s = (⟨#[]⟩, 2)) := G2.out hsg
            have k2 : ((sg9 : Int) != (i.length : Int)) = true := by simp; omega
            clear G2 G3 G4 hsg
            go_wp2_with fail
            go_ret2
            exact ⟨by rw [HF.out]; rfl, B.out⟩
          have k2 : ((sg9 : Int) != (i.length : Int)) = false := by simp; omega
          have H3 : Hid (chk i ≠ c → fromS s = (⟨#[]⟩, 8)) := fun h2 => G3.out hsg h2
          have H4 : Hid (¬ chk i ≠ c → fromS s = txtV i) := fun h2 => G4.out hsg h2
          have CK : Hid (Calls Try.prog 20 #[.slice (some ⟨ab, ao, none⟩) i.length vc] wr fun e w' => e = .returned (.int .i64 (chk i : Int)) ∧ Below wr.heap.size wr w') := refCheck_any wr _ vc i (by omega) (fun d hd => by have := HI.out d hd; omega) VI.out
          have ck9 := chk_lt i
          clear G2 G3 G4
          go_upto_region 22 with fail
          clear k2 ksg hsg
          generalize chk i = ck at *
          go_wp2_with fail
          refine CK.out.mono ?_
          rintro e W5 ⟨rfl, hb⟩
          have B5 : Hid (Below w.heap.size w W5) := B.out.trans (hb.mono B.out.size)
          have VI5 : Hid (VRow W5 (some ⟨ab, ao, none⟩) (i.map Z)) := VI.out.of_below hb
          clear hb CK B VI
          by_cases hck : ck ≠ c
          · have HF : Hid (fromS s = (⟨#[]⟩, 8)) := H3.out hck
            have k3 : ((ck : Int) != (c : Int)) = true := by simp; omega
            clear H3 H4 hck
            go_wp2_with fail
            go_ret2
            exact ⟨by rw [HF.out]; rfl, B5.out⟩
          have HF : Hid (fromS s = txtV i) := H4.out hck
          have k3 : ((ck : Int) != (c : Int)) = false := by simp; omega
          have hmk := makeBytes (n8 : Int) n8 rfl (by omega) W5
          have BH0 : Hid (BH (W5.alloc (.cells (Array.replicate n8 (Y 0)) 5)) W5.heap.size (obs i n8 0)) := by
            show (W5.heap.push _)[W5.heap.size]? = _
            rw [obs_zero]
            simp
          have B50 : Hid (Below W5.heap.size W5 (W5.alloc (.cells (Array.replicate n8 (Y 0)) 5))) := (Below.refl _ W5).alloc (Nat.le_refl _) _
          clear H3 H4
          go_upto_region 25 with fail
          clear hmk k3 hck
          generalize W5.alloc (.cells (Array.replicate n8 (Y 0)) 5) = W6 at *
          generalize hgg : W5.heap.size = g at *
          have HG : Hid (W5.heap.size = g) := hgg
          have GB : Hid (w.heap.size ≤ g) := by have := B5.out.size; rw [hgg] at this; exact this
          clear hgg
          go_wp2_with fail
          have HROW : Hid (∀ W, Below g W5 W → ∀ q (h : q < i.length), W.cell? ⟨ab, ao + q, none⟩ = some (Z i[q])) := fun W hW q h => by
            have hb : Below W5.heap.size W5 W := by rw [HG.out]; exact hW
            obtain ⟨b', o', e', c'⟩ := VI5.out.of_below hb q (by simpa using h)
            simp only [Option.some.injEq, Addr.mk.injEq, and_true] at e'
            obtain ⟨rfl, rfl⟩ := e'
            rw [c', List.getElem_map]
          have HBW : Hid (∀ W, Below g W5 W → Below w.heap.size w W) := fun W hW => B5.out.trans (hW.mono GB.out)
          clear VI5
          go_loopg [11, 12, 13] (5 * i.length) (fun gk v11 v12 v13 wq => ∃ j : Nat, j + gk = 5 * i.length ∧ v11 = .int .i64 (j : Int) ∧ BH wq g (obs i n8 j) ∧ tailZ i j ∧ Below g W5 wq)
          case atStart => exact ⟨0, by omega, rfl, BH0.out, Or.inl (by omega), B50.out⟩
          case round =>
            clear BH0 B50
            obtain ⟨j, hj, rfl, hBH, htz, hB6⟩ := hrel
            have H : Hid (BH wr g (obs i n8 j)) := hBH
            have TZ : Hid (tailZ i j) := htz
            have B6 : Hid (Below g W5 wr) := hB6
            clear hBH htz hB6
            by_cases hj2 : j < 5 * i.length
            · have kj : (j : Int) < 5 * (i.length : Int) := by omega
              obtain ⟨q5, hq5⟩ : ∃ q5, q5 = j / 5 := ⟨_, rfl⟩
              obtain ⟨r5, hr5⟩ : ∃ r5, r5 = j % 5 := ⟨_, rfl⟩
              obtain ⟨q8, hq8⟩ : ∃ q8, q8 = j / 8 := ⟨_, rfl⟩
              obtain ⟨t5, ht5⟩ : ∃ t5, t5 = 4 - r5 := ⟨_, rfl⟩
              have q5l : q5 < i.length := by omega
              have hc := HROW.out wr B6.out q5 q5l
              have x9 := HI.out i[q5] (List.getElem_mem _)
              have VB : Hid (vbit i j = i[q5] / 2 ^ t5 % 2) := by
                show _ = _
                unfold vbit
                have q5l' : j / 5 < i.length := by omega
                rw [List.getD_eq_getElem?_getD, List.getElem?_eq_getElem q5l', Option.getD_some, ht5, hr5]
                simp only [hq5]
              have OB : Hid (obs i n8 j = obs i n8 j ∧ (q8 < n8 → obs i n8 (j + 1) = (obs i n8 j).set q8 (2 * ob i j q8 + vbit i j))) := ⟨rfl, fun h => by rw [hq8]; exact obs_succ HI.out hj2 (by omega)⟩
              have OS : Hid (¬ q8 < n8 → obs i n8 (j + 1) = obs i n8 j) := fun h => obs_stay (by omega)
              have TE : Hid (q8 < n8 → tailZ i (j + 1)) := fun h => tail_early (by have := HN8.out; omega)
              have TN : Hid (¬ q8 < n8 → vbit i j = 0 → tailZ i (j + 1)) := fun h h0 => tail_next HI.out hj2 TZ.out (by have := HN8.out; omega) h0
              have TB : Hid (¬ q8 < n8 → vbit i j = 1 → fromS s = (⟨#[]⟩, 2)) := fun h h1 => by rw [HF.out]; exact txtV_bad (tail_bad HI.out hj2 (by have := HN8.out; omega) h1)
              have ob9 : ob i j q8 < 128 := by rw [hq8]; exact ob_lt j
              have OC : Hid (q8 < n8 → wr.cell? ⟨g, q8, none⟩ = some (Y (ob i j q8))) := fun h => by
                rw [H.out.cell q8 (by rw [obs_length]; exact h), obs_get]
              have kq5 : (j : Int).tdiv 5 = (q5 : Int) := by rw [Int.tdiv_eq_ediv_of_nonneg (by omega)]; omega
              have kr5 : (j : Int).tmod 5 = (r5 : Int) := by rw [Int.tmod_eq_emod_of_nonneg (by omega)]; omega
              have kt5 : (4 : Int) - (r5 : Int) = (t5 : Int) := by omega
              have kq8 : (j : Int).tdiv 8 = (q8 : Int) := by rw [Int.tdiv_eq_ediv_of_nonneg (by omega)]; omega
              have kq5l : (q5 : Int) < (i.length : Int) := by omega
              have j9 : j ≤ 600 := by omega
              have t9 : t5 ≤ 4 := by omega
              have q89 : q8 ≤ 600 := by omega
              clear hq5 hr5 hq8 ht5 TZ
              generalize i[q5] = x at *
              generalize gk = G3 at *
              go_upto_region 29 with fail
              clear hc kj
              go_wp2_with fail
              go_loopg [12, 13] t5 (fun gk2 v12 v13 wz => ∃ k : Nat, k + gk2 = t5 ∧ v13 = .int .i64 (k : Int) ∧ v12 = .int .i64 ((x / 2 ^ k : Nat) : Int) ∧ wz = wr)
              case atStart => exact ⟨0, by omega, rfl, by simp, rfl⟩
              case round =>
                obtain ⟨k, hk, rfl, rfl, rfl⟩ := hrel
                have x8 : x / 2 ^ k ≤ x := Nat.div_le_self _ _
                by_cases hkt : k < t5
                · have klt : (k : Int) < (t5 : Int) := by omega
                  have H2 : Hid (x / 2 ^ k / 2 = x / 2 ^ (k + 1)) := by show _ = _; rw [Nat.div_div_eq_div_mul, Nat.pow_succ]
                  generalize x / 2 ^ k = y at *
                  obtain ⟨z, hz⟩ : ∃ z, z = y / 2 := ⟨_, rfl⟩
                  rw [← hz] at H2
                  have kz : (y : Int).tdiv 2 = (z : Int) := by rw [Int.tdiv_eq_ediv_of_nonneg (by omega)]; omega
                  have kz2 : (y : Int) / 2 = (z : Int) := by omega
                  clear hz
                  go_wp2_with fail
                  go_roundg (gk - 1)
                  case measure => omega
                  case rel => exact ⟨k + 1, by omega, by go_num, by rw [← H2.out], rfl⟩
                · obtain rfl : k = t5 := by omega
                  have knt : ¬ ((k : Nat) : Int) < (k : Int) := by omega
                  generalize hy : x / 2 ^ k = y at *
                  clear hy
                  obtain ⟨vb, hvb⟩ : ∃ vb, vb = y % 2 := ⟨_, rfl⟩
                  rw [← hvb] at VB
                  have kv : (y : Int).tmod 2 = (vb : Int) := by rw [Int.tmod_eq_emod_of_nonneg (by omega)]; omega
                  have kv2 : (y : Int) % 2 = (vb : Int) := by omega
                  have vb2 : vb < 2 := by omega
                  rw [VB.out] at OB TN TB
                  clear hvb
                  go_upto_region 33 with fail
                  clear knt kr5 kt5 kq5
                  by_cases h8 : q8 < n8
                  · have oc := OC.out h8
                    have fz : wr.frozen? ⟨g, q8, none⟩ = false := H.out.frozen q8
                    have k8 : (q8 : Int) < (n8 : Int) := by omega
                    obtain ⟨nb, hnb⟩ : ∃ nb, nb = 2 * ob i j q8 + vb := ⟨_, rfl⟩
                    have E := OB.out.2 h8
                    rw [← hnb] at E
                    have HE2 : Hid (obs i n8 (j + 1) = (obs i n8 j).set q8 nb) := E
                    have TZ2 : Hid (tailZ i (j + 1)) := TE.out h8
                    generalize ob i j q8 = o8 at *
                    have w1 : IntKind.u8.wrap (2 * (o8 : Int)) = 2 * (o8 : Int) := by rw [IntKind.wrap_u8]; omega
                    have w2 : IntKind.u8.wrap (vb : Int) = (vb : Int) := by rw [IntKind.wrap_u8]; omega
                    have w3 : IntKind.u8.wrap (2 * (o8 : Int) + (vb : Int)) = (nb : Int) := by rw [IntKind.wrap_u8]; omega
                    have w4 : 2 * (o8 : Int) + (vb : Int) = (nb : Int) := by omega
                    have w5 : (2 * (o8 : Int)) % 256 = 2 * (o8 : Int) := by omega
                    have w6 : (vb : Int) % 256 = (vb : Int) := by omega
                    have w7 : (nb : Int) % 256 = (nb : Int) := by omega
                    clear E OB OS TE TN TB OC hnb
                    go_wp2_with fail
                    go_roundg (G3 - 1)
                    case measure => omega
                    case rel => exact ⟨j + 1, by omega, by go_num, by rw [HE2.out]; exact H.out.set q8 nb, TZ2.out, B6.out.setCell (p := ⟨g, q8, none⟩) (by exact Nat.le_refl _) _⟩
                  · have k8 : ¬ (q8 : Int) < (n8 : Int) := by omega
                    by_cases hv1 : vb = 1
                    · have HF2 : Hid (fromS s = (⟨#[]⟩, 2)) := TB.out h8 hv1
                      have kv1 : (vb : Int) = 1 := by omega
                      have B9 : Hid (Below w.heap.size w wr) := HBW.out wr B6.out
                      clear OB OS TE TN TB OC hv1 HF
                      go_wp2_with fail
                      go_ret2
                      exact ⟨by rw [HF2.out]; rfl, B9.out⟩
                    · have kv1 : ((vb : Int) == 1) = false := by simp; omega
                      have HE2 : Hid (obs i n8 (j + 1) = obs i n8 j) := OS.out h8
                      have TZ2 : Hid (tailZ i (j + 1)) := TN.out h8 (by omega)
                      clear OB OS TE TN TB OC
                      go_wp2_with fail
                      go_roundg (G3 - 1)
                      case measure => omega
                      case rel => exact ⟨j + 1, by omega, by go_num, by rw [HE2.out]; exact H.out, TZ2.out, B6.out⟩
            · obtain rfl : j = 5 * i.length := by omega
              have kj : ¬ ((5 * i.length : Nat) : Int) < 5 * (i.length : Int) := by omega
              have HT : Hid (fromS s = (strN (obs i n8 (5 * i.length)), 0)) := by
                show _ = _
                rw [HF.out, txtV_ok TZ.out, ← HN8.out]
              have hown := H.out.owned GB.out (by rw [obs_length]; omega)
              have hcv := convert_owned hown
              rw [obs_length] at hcv
              have B9 : Hid (Below w.heap.size w wr) := HBW.out wr B6.out
              generalize strN (obs i n8 (5 * i.length)) = TT at *
              clear hown H HF TZ
              go_wp2_with fail
              go_ret2
              exact ⟨by rw [HT.out]; rfl, B9.out⟩
end Go.Proofs.Ytlogilmeefcipaa
