/- The reference's asked, folded, rows, sums. -/
import Derived.Test.YtokmdgiialcokaaDoorFoF
import Derived.Test.YtokmdgiialcokaaDoorMvY
import Derived.Test.YtokmdgiialcokaaDoorScY
namespace Go.Proofs.YtokmdgiialcokaaDoor
open Go.RowKit

set_option maxRecDepth 100000 in
set_option maxHeartbeats 4000000 in
theorem rasked_any (ints : Bool) (A : Ar) (v : Value) (w : World) (hv : RdI w.heap.size w v A.z) (hl : A.z.length ≤ 100000) :
    Calls Tryd.prog 64 #[A5 A.k A.r A.a A.b v, .bool ints] w fun e w' => e = .returned (.int .i64 (faE (!ints || A.k == 1) A)) ∧ Below w.heap.size w w' := by
  have HC := Lib.hid (fun W h => archeck_any A v W h (by omega))
  have HK := Lib.hid (KR.new A.k A.r A.a A.b hv)
  have x0 := HK.out.blk.c0; have x1 := HK.out.blk.c1; have x2 := HK.out.blk.c2; have x3 := HK.out.blk.c3; have x4 := HK.out.blk.c4
  obtain ⟨p, cap, rfl, hcap, hcap2, hcell⟩ := hv
  clear hcell
  unfold faE
  by_cases h1 : ck A = 0
  · rw [if_neg (not_not_intro h1)]
    rw [h1] at HC
    clear h1
    by_cases h2 : A.r = 0
    · have k2 : (A.r == 0) = true := by simpa using h2
      simp only [if_pos h2]
      clear h2
      cases ints
      · simp only [Bool.not_false, Bool.true_or, Bool.true_eq_false, if_false]
        go_enter Tryd.func64, Tryd.ntmps64
        go_wp2_with (first | (go_at_call 14; (with_reducible refine (HC.out _ HK.out.rd).mono ?_); rintro e w' ⟨rfl, hb⟩; have HK2 := Lib.hid (HK.out.next hb); clear HK hb x0 x1 x2 x3 x4; have HK := HK2; clear HK2; have x0 := HK.out.blk.c0; have x1 := HK.out.blk.c1; have x2 := HK.out.blk.c2; have x3 := HK.out.blk.c3; have x4 := HK.out.blk.c4) | fail)
        go_ret
        exact ⟨rfl, HK.out.bel⟩
      · by_cases h3 : A.k = 1
        · have k3 : (A.k == 1) = true := by simpa using h3
          have k4 : (A.k != 1) = false := by simpa using h3
          simp only [Bool.not_true, Bool.false_or, k3, Bool.true_eq_false, if_false]
          clear h3 k3
          go_enter Tryd.func64, Tryd.ntmps64
          go_wp2_with (first | (go_at_call 14; (with_reducible refine (HC.out _ HK.out.rd).mono ?_); rintro e w' ⟨rfl, hb⟩; have HK2 := Lib.hid (HK.out.next hb); clear HK hb x0 x1 x2 x3 x4; have HK := HK2; clear HK2; have x0 := HK.out.blk.c0; have x1 := HK.out.blk.c1; have x2 := HK.out.blk.c2; have x3 := HK.out.blk.c3; have x4 := HK.out.blk.c4) | fail)
          go_ret
          exact ⟨rfl, HK.out.bel⟩
        · have k3 : (A.k == 1) = false := by simpa using h3
          have k4 : (A.k != 1) = true := by simpa using h3
          simp only [Bool.not_true, Bool.false_or, k3, if_true]
          clear h3 k3
          go_enter Tryd.func64, Tryd.ntmps64
          go_wp2_with (first | (go_at_call 14; (with_reducible refine (HC.out _ HK.out.rd).mono ?_); rintro e w' ⟨rfl, hb⟩; have HK2 := Lib.hid (HK.out.next hb); clear HK hb x0 x1 x2 x3 x4; have HK := HK2; clear HK2; have x0 := HK.out.blk.c0; have x1 := HK.out.blk.c1; have x2 := HK.out.blk.c2; have x3 := HK.out.blk.c3; have x4 := HK.out.blk.c4) | fail)
          go_ret
          exact ⟨rfl, HK.out.bel⟩
    · have k2 : (A.r == 0) = false := by simpa using h2
      simp only [if_neg h2]
      clear h2
      cases ints
      · simp only [Bool.not_false, Bool.true_or, Bool.true_eq_false, if_false]
        go_enter Tryd.func64, Tryd.ntmps64
        go_wp2_with (first | (go_at_call 14; (with_reducible refine (HC.out _ HK.out.rd).mono ?_); rintro e w' ⟨rfl, hb⟩; have HK2 := Lib.hid (HK.out.next hb); clear HK hb x0 x1 x2 x3 x4; have HK := HK2; clear HK2; have x0 := HK.out.blk.c0; have x1 := HK.out.blk.c1; have x2 := HK.out.blk.c2; have x3 := HK.out.blk.c3; have x4 := HK.out.blk.c4) | fail)
        go_ret
        exact ⟨rfl, HK.out.bel⟩
      · by_cases h3 : A.k = 1
        · have k3 : (A.k == 1) = true := by simpa using h3
          have k4 : (A.k != 1) = false := by simpa using h3
          simp only [Bool.not_true, Bool.false_or, k3, Bool.true_eq_false, if_false]
          clear h3 k3
          go_enter Tryd.func64, Tryd.ntmps64
          go_wp2_with (first | (go_at_call 14; (with_reducible refine (HC.out _ HK.out.rd).mono ?_); rintro e w' ⟨rfl, hb⟩; have HK2 := Lib.hid (HK.out.next hb); clear HK hb x0 x1 x2 x3 x4; have HK := HK2; clear HK2; have x0 := HK.out.blk.c0; have x1 := HK.out.blk.c1; have x2 := HK.out.blk.c2; have x3 := HK.out.blk.c3; have x4 := HK.out.blk.c4) | fail)
          go_ret
          exact ⟨rfl, HK.out.bel⟩
        · have k3 : (A.k == 1) = false := by simpa using h3
          have k4 : (A.k != 1) = true := by simpa using h3
          simp only [Bool.not_true, Bool.false_or, k3, if_true]
          clear h3 k3
          go_enter Tryd.func64, Tryd.ntmps64
          go_wp2_with (first | (go_at_call 14; (with_reducible refine (HC.out _ HK.out.rd).mono ?_); rintro e w' ⟨rfl, hb⟩; have HK2 := Lib.hid (HK.out.next hb); clear HK hb x0 x1 x2 x3 x4; have HK := HK2; clear HK2; have x0 := HK.out.blk.c0; have x1 := HK.out.blk.c1; have x2 := HK.out.blk.c2; have x3 := HK.out.blk.c3; have x4 := HK.out.blk.c4) | fail)
          go_ret
          exact ⟨rfl, HK.out.bel⟩
  · rw [if_pos h1]
    generalize ck A = E at HC h1 ⊢
    have k1 : (E != 0) = true := by simpa using h1
    have k5 : (E == 0) = false := by simpa using h1
    clear h1
    cases ints
    · go_enter Tryd.func64, Tryd.ntmps64
      go_wp2_with (first | (go_at_call 14; (with_reducible refine (HC.out _ HK.out.rd).mono ?_); rintro e w' ⟨rfl, hb⟩; have HK2 := Lib.hid (HK.out.next hb); clear HK hb x0 x1 x2 x3 x4; have HK := HK2; clear HK2; have x0 := HK.out.blk.c0; have x1 := HK.out.blk.c1; have x2 := HK.out.blk.c2; have x3 := HK.out.blk.c3; have x4 := HK.out.blk.c4) | fail)
      go_ret
      exact ⟨rfl, HK.out.bel⟩
    · go_enter Tryd.func64, Tryd.ntmps64
      go_wp2_with (first | (go_at_call 14; (with_reducible refine (HC.out _ HK.out.rd).mono ?_); rintro e w' ⟨rfl, hb⟩; have HK2 := Lib.hid (HK.out.next hb); clear HK hb x0 x1 x2 x3 x4; have HK := HK2; clear HK2; have x0 := HK.out.blk.c0; have x1 := HK.out.blk.c1; have x2 := HK.out.blk.c2; have x3 := HK.out.blk.c3; have x4 := HK.out.blk.c4) | fail)
      go_ret
      exact ⟨rfl, HK.out.bel⟩

set_option maxRecDepth 100000 in
set_option maxHeartbeats 4000000 in
theorem rfolded_any (A : Ar) (v : Value) (z : List Int) (p' : Option Addr) (cap' : Nat) (w : World) (B : Nat) (hv : RdI w.heap.size w v A.z) (hu : RdN B w (.slice p' z.length cap') z) :
    Calls Tryd.prog 67 #[A5 A.k A.r A.a A.b v, .slice p' z.length cap'] w fun e w' => e = .returned (A5 (ofR A z).k (ofR A z).r (ofR A z).a (ofR A z).b (.slice p' z.length cap')) ∧ RdN B w' (.slice p' z.length cap') z ∧ Below w.heap.size w w' := by
  have hs : (w.alloc (.cells #[.int .i64 A.k, .int .i64 A.r, .int .i64 A.a, .int .i64 A.b, v] 25)).heap.size = w.heap.size + 1 := by simp
  have HB := Lib.hid (bel1 w (.cells #[.int .i64 A.k, .int .i64 A.r, .int .i64 A.a, .int .i64 A.b, v] 25))
  have HU := Lib.hid (hu.next HB.out)
  have x1 := (R5.new w A.k A.r A.a A.b v).c1
  obtain ⟨p, cap, rfl, _, _, _⟩ := hv
  clear hu
  unfold ofR
  by_cases h1 : A.r = 1
  · simp only [if_pos h1]
    have k1 : (A.r == 1) = true := by simpa using h1
    clear h1
    have hz : R5 ((w.alloc (.cells #[.int .i64 A.k, .int .i64 A.r, .int .i64 A.a, .int .i64 A.b, (.slice p A.z.length cap)] 25)).alloc (.cells #[.int .i64 1, .int .i64 0, .int .i64 0, .int .i64 0, .slice p' z.length cap'] 25)) (w.heap.size + 1) 1 0 0 0 (.slice p' z.length cap') := by rw [← hs]; exact R5.new _ _ _ _ _ _
    have z0 := hz.c0; have z1 := hz.c1; have z2 := hz.c2; have z3 := hz.c3; have z4 := hz.c4
    clear hz hs
    have hb1 := bel1 (w.alloc (.cells #[.int .i64 A.k, .int .i64 A.r, .int .i64 A.a, .int .i64 A.b, (.slice p A.z.length cap)] 25)) (.cells #[.int .i64 1, .int .i64 0, .int .i64 0, .int .i64 0, .slice p' z.length cap'] 25)
    have HE : Hid (RdN B ((w.alloc (.cells #[.int .i64 A.k, .int .i64 A.r, .int .i64 A.a, .int .i64 A.b, (.slice p A.z.length cap)] 25)).alloc (.cells #[.int .i64 1, .int .i64 0, .int .i64 0, .int .i64 0, .slice p' z.length cap'] 25)) (.slice p' z.length cap') z ∧ Below w.heap.size w ((w.alloc (.cells #[.int .i64 A.k, .int .i64 A.r, .int .i64 A.a, .int .i64 A.b, (.slice p A.z.length cap)] 25)).alloc (.cells #[.int .i64 1, .int .i64 0, .int .i64 0, .int .i64 0, .slice p' z.length cap'] 25))) := ⟨HU.out.next hb1, HB.out.trans (hb1.mono HB.out.size)⟩
    clear HU HB hb1
    go_enter Tryd.func67, Tryd.ntmps67
    go_wp2_with fail
    refine bodyPost_ret (v := A5 1 0 0 0 (.slice p' z.length cap')) (by simp [results, Tryd.results67, go_sem, z0, z1, z2, z3, z4]) rfl ?_
    exact ⟨rfl, HE.out.1, HE.out.2⟩
  · simp only [if_neg h1]
    have k1 : (A.r == 1) = false := by simpa using h1
    clear h1
    have hz : R5 ((w.alloc (.cells #[.int .i64 A.k, .int .i64 A.r, .int .i64 A.a, .int .i64 A.b, (.slice p A.z.length cap)] 25)).alloc (.cells #[.int .i64 1, .int .i64 1, .int .i64 (z.length : Int), .int .i64 0, .slice p' z.length cap'] 25)) (w.heap.size + 1) 1 1 (z.length : Int) 0 (.slice p' z.length cap') := by rw [← hs]; exact R5.new _ _ _ _ _ _
    have z0 := hz.c0; have z1 := hz.c1; have z2 := hz.c2; have z3 := hz.c3; have z4 := hz.c4
    clear hz hs
    have hb1 := bel1 (w.alloc (.cells #[.int .i64 A.k, .int .i64 A.r, .int .i64 A.a, .int .i64 A.b, (.slice p A.z.length cap)] 25)) (.cells #[.int .i64 1, .int .i64 1, .int .i64 (z.length : Int), .int .i64 0, .slice p' z.length cap'] 25)
    have HE : Hid (RdN B ((w.alloc (.cells #[.int .i64 A.k, .int .i64 A.r, .int .i64 A.a, .int .i64 A.b, (.slice p A.z.length cap)] 25)).alloc (.cells #[.int .i64 1, .int .i64 1, .int .i64 (z.length : Int), .int .i64 0, .slice p' z.length cap'] 25)) (.slice p' z.length cap') z ∧ Below w.heap.size w ((w.alloc (.cells #[.int .i64 A.k, .int .i64 A.r, .int .i64 A.a, .int .i64 A.b, (.slice p A.z.length cap)] 25)).alloc (.cells #[.int .i64 1, .int .i64 1, .int .i64 (z.length : Int), .int .i64 0, .slice p' z.length cap'] 25))) := ⟨HU.out.next hb1, HB.out.trans (hb1.mono HB.out.size)⟩
    clear HU HB hb1
    go_enter Tryd.func67, Tryd.ntmps67
    go_wp2_with fail
    refine bodyPost_ret (v := A5 1 1 (z.length : Int) 0 (.slice p' z.length cap')) (by simp [results, Tryd.results67, go_sem, z0, z1, z2, z3, z4]) rfl ?_
    exact ⟨rfl, HE.out.1, HE.out.2⟩

theorem infoSl : (Tryd.prog.info? 23).map (fun i => (i.zero, i.size, i.bytes)) = some (some (.slice none 0 0), 1, 24) := by kernel_rfl
/-- append of one row, laid in a block of its own just before. -/
theorem wpList_append_mx {w0 : World} {ops : Array Oper} {rest : List Oper} {o : Oper} {a : Act} {Q : Exit → Act → World → Prop} (hgd : Region.wanted o (yielded ops a.tmps) = true) (s x : Operand)
    (ho : o.op = .call { callee := .builtin .append, args := #[s, x], argTypes := #[71, 71] }) (B : Nat) (v : Value) (n : Nat) (xs : List Value) (hs : a.eval s = v) (hm : w0.ownsRow B 23 1 v n xs) (y : Value) (hone : y.oneCell' = true)
    (hx : a.eval x = .slice (some ⟨w0.heap.size, 0, none⟩) 1 1) (hl : n ≤ 1000) (hB : B ≤ w0.heap.size)
    (h : ∀ v' w', w'.ownsRow B 23 1 v' (n + 1) (xs ++ [y]) → Below B w0 w' → wpList Tryd.prog ops Q rest (a.put o.dst v') w') : wpList Tryd.prog ops Q (o :: rest) a (w0.alloc (.cells #[y] 23)) := by
  obtain ⟨i0, hi0, hz0, hz1, hz2⟩ := info_parts infoSl
  have hb0 := bel1 w0 (.cells #[y] 23)
  have h1a := World.ownsRow.alloc hm (.cells #[y] 23)
  have hc : (w0.alloc (.cells #[y] 23)).cell? ⟨w0.heap.size, 0, none⟩ = some y := by unfold World.cell?; rw [heap_alloc_last]; rfl
  refine Ru.wpList_met hgd fun K hK => wp_append_own _ s x 71 ho B 23 i0 (.slice none 0 0) 1 24 Tryd.underlying71 hi0 hz0 hz1 hz2 rfl (by decide) v n _ hs h1a ⟨w0.heap.size, 0, none⟩ 1 1 [y] hx (by simp) ?_ (by simpa using hone) (by unfold maxLen; omega) (by omega) (by simp; omega) ?_
  · intro j t ht
    have hj : j = 0 := by
      rcases Nat.eq_zero_or_pos j with e | e
      · exact e
      · rw [List.getElem?_eq_none (by simp; omega)] at ht; cases ht
    subst hj
    rw [Ru.add_off, hc]
    simpa using ht
  · intro v' w' hown' hg _
    exact hK _ _ (h v' w' hown' ((hb0.mono hB).trans ((Below.refl B _).grown hg (by simp; omega) (fun j e => (World.ownsRow.lt h1a j e).1))))
/-- The rows that have been cut. -/
def cutL (p : Option Addr) (cap m j : Nat) : List Value := (List.range j).map fun i => cutS p (i * m) (i * m + m) cap
theorem cutL_next (p : Option Addr) (cap m j : Nat) : cutL p cap m j ++ [cutS p (j * m) (j * m + m) cap] = cutL p cap m (j + 1) := by simp [cutL, List.range_succ]
theorem cutL_at {p : Option Addr} {cap m n j : Nat} (h : j < n) : (cutL p cap m n)[j]? = some (cutS p (j * m) (j * m + m) cap) := by simp [cutL, h]
set_option maxRecDepth 100000 in
set_option maxHeartbeats 8000000 in
theorem rrows11_2 (kk : Int) (n m : Nat) (z : List Int) (p : Option Addr) (cap : Nat) (w : World) (hnm : z.length = n * m) (h4 : z.length ≤ 400) (r3 : n ≤ 400) (r4 : m ≤ 400) (hcap : z.length ≤ cap) (_hcap2 : cap ≤ 9223372036854775807) (hv : RdI w.heap.size w (.slice p z.length cap) z) :
    Calls Tryd.prog 65 #[A5 kk 2 n m (.slice p z.length cap)] w fun e w' => ∃ u, e = .returned u ∧ w'.ownsRow (w.heap.size + 1) 23 1 u n (cutL p cap m n) ∧ RdI w'.heap.size w' (.slice p z.length cap) z ∧ Below w.heap.size w w' := by
  have HK := Lib.hid (KR.new kk 2 n m hv)
  have x0 := HK.out.blk.c0; have x1 := HK.out.blk.c1; have x2 := HK.out.blk.c2; have x3 := HK.out.blk.c3; have x4 := HK.out.blk.c4
  have HNM := Lib.hid hnm
  clear hv hnm
  go_enter Tryd.func65, Tryd.ntmps65
  go_wp2_with fail
  have HK1 : Hid (KR w kk 2 n m (.slice p z.length cap) z (w.alloc (.cells #[.int .i64 kk, .int .i64 2, .int .i64 n, .int .i64 m, .slice p z.length cap] 25))) := HK.out
  clear HK x0 x1 x2 x3 x4
  have HS1 : Hid ((w.alloc (.cells #[.int .i64 kk, .int .i64 2, .int .i64 n, .int .i64 m, .slice p z.length cap] 25)).heap.size = w.heap.size + 1) := by unfold Hid; simp
  go_loopg [3, 5] n (fun gk u i wr => ∃ (j : Nat) (U : Value), j + gk = n ∧ U = u ∧ i = .int .i64 j ∧ wr.ownsRow (w.heap.size + 1) 23 1 U j (cutL p cap m j) ∧ Below (w.heap.size + 1) (w.alloc (.cells #[.int .i64 kk, .int .i64 2, .int .i64 n, .int .i64 m, .slice p z.length cap] 25)) wr)
  case atStart => exact ⟨0, _, by omega, rfl, rfl, World.ownsRow_nil _ _ _ _, Below.refl _ _⟩
  case round =>
    obtain ⟨j, u0, hjg, rfl, rfl, hown, hbl⟩ := hrel
    have HO := Lib.hid hown
    have HBl := Lib.hid hbl
    clear hown hbl
    have HK := Lib.hid (HK1.out.next (by rw [HS1.out]; exact HBl.out))
    have x0 := HK.out.blk.c0; have x1 := HK.out.blk.c1; have x2 := HK.out.blk.c2; have x3 := HK.out.blk.c3; have x4 := HK.out.blk.c4
    have hsz := HBl.out.size
    rw [HS1.out] at hsz
    cases gk with
    | zero =>
      have hjz : ¬ ((j : Int) < (n : Int)) := by omega
      have hjn : j = n := by omega
      have HR : Hid (wr.ownsRow (w.heap.size + 1) 23 1 u0 n (cutL p cap m n)) := by
        have h := HO.out
        rw [hjn] at h
        exact h
      clear hjn HO HBl
      go_wp2_with fail
      go_ret
      exact ⟨_, rfl, HR.out, HK.out.rd, HK.out.bel⟩
    | succ g2 =>
      have hjz : (j : Int) < (n : Int) := by omega
      have hj : j < n := by omega
      have hle := Nat.mul_le_mul_right m (show j + 1 ≤ n by omega)
      rw [Nat.add_mul, Nat.one_mul, ← HNM.out] at hle
      have hw0 : IntKind.i64.wrap ((j : Int) + 1) = (j : Int) + 1 := by rw [IntKind.wrap_i64]; omega
      have HNx := Lib.hid (cutL_next p cap m j)
      obtain ⟨d, hd⟩ : ∃ d, j * m = d := ⟨_, rfl⟩
      rw [hd] at HNx hle
      have hwa : IntKind.i64.wrap ((j : Int) * (m : Int)) = (d : Int) := by rw [← Int.natCast_mul, IntKind.wrap_i64, hd]; omega
      have hwc : IntKind.i64.wrap ((d : Int) + (m : Int)) = ((d + m : Nat) : Int) := by rw [IntKind.wrap_i64]; omega
      have hcr := fun W => cut_run p z.length cap d (d + m) (by omega) (by omega) W
      generalize hh1 : d + m = h1 at *
      have hcv : cutS p d h1 cap = .slice (if cap = d then p else p.map (·.add d)) (h1 - d) (cap - d) := rfl
      rw [hcv] at hcr HNx
      generalize (if cap = d then p else p.map (·.add d)) = qa at hcr HNx
      generalize h1 - d = la at hcr HNx
      generalize cap - d = ca at hcr HNx
      clear hd hle hh1 hcv
      go_wp2_with (at_builtin; refine wpList_append_mx (by simp [Region.wanted]) _ _ rfl (w.heap.size + 1) _ _ _ rfl HO.out (.slice qa la ca) rfl rfl (by omega) (by omega) ?_; intro u2 w2 hu2 hb2; rw [HNx.out] at hu2; have HU2 := Lib.hid hu2; have HB2 := Lib.hid (HBl.out.trans hb2); clear hu2 hb2)
      go_roundg g2
      case measure => omega
      case rel => exact ⟨j + 1, _, by omega, rfl, by go_num, HU2.out, HB2.out⟩
/-- A slice of rows, that lies in a block from g0 on and below N; the rows' cells lie below G. -/
def RW (G g0 N : Nat) (w : World) (u : Value) (L : List (List Int)) : Prop :=
  ∃ a cap, u = .slice a L.length cap ∧ (L ≠ [] → ∃ b, a = some ⟨b, 0, none⟩ ∧ (g0 ≤ b ∧ b < N) ∧ ∀ j (hj : j < L.length), ∃ x, w.cell? ⟨b, j, none⟩ = some x ∧ RdI G w x L[j] ∧ Ru.NilC x)
theorem RW.keep {G g0 N : Nat} {w w' : World} {u : Value} {L : List (List Int)} (h : RW G g0 N w u L) (hb : ∀ c, c < G ∨ (g0 ≤ c ∧ c < N) → w'.heap[c]? = w.heap[c]?) : RW G g0 N w' u L := by
  obtain ⟨a, cap, h1, h2⟩ := h
  refine ⟨a, cap, h1, fun hn => ?_⟩
  obtain ⟨b, e, hbb, hc⟩ := h2 hn
  refine ⟨b, e, hbb, fun j hj => ?_⟩
  obtain ⟨x, e1, e2, e3⟩ := hc j hj
  have hk : w'.cell? ⟨b, j, none⟩ = w.cell? ⟨b, j, none⟩ := World.cell?_of_block (hb b (.inr hbb))
  refine ⟨x, hk.trans e1, ?_, e3⟩
  obtain ⟨q, c, f1, f2, f3, f4⟩ := e2
  refine ⟨q, c, f1, f2, f3, fun hn => ?_⟩
  obtain ⟨b2, off, g1, g2, g3⟩ := f4 hn
  exact ⟨b2, off, g1, g2, fun t ht => (World.cell?_of_block (hb b2 (.inl g2))).trans (g3 t ht)⟩
theorem RW.next {G g0 N : Nat} {w w' : World} {u : Value} {L : List (List Int)} (h : RW G g0 N w u L) (hG : G ≤ N) (hb : Below N w w') : RW G g0 N w' u L :=
  h.keep fun c hc => hb.block c (by omega)
theorem RW.row {G g0 N : Nat} {w : World} {u : Value} {L : List (List Int)} (h : RW G g0 N w u L) {j : Nat} (hj : j < L.length) : ∃ b cap q c, u = .slice (some ⟨b, 0, none⟩) L.length cap ∧ w.cell? ⟨b, j, none⟩ = some (.slice q L[j].length c) ∧ RdI G w (.slice q L[j].length c) L[j] := by
  obtain ⟨a, cap, h1, h2⟩ := h
  obtain ⟨b, e, hbb, hc⟩ := h2 (by intro e; rw [e] at hj; simp at hj)
  obtain ⟨x, e1, e2, e3⟩ := hc j hj
  obtain ⟨q, c, f1, f2⟩ := e2
  subst e f1
  exact ⟨b, cap, q, c, h1, e1, _, _, rfl, f2⟩
theorem RW.form {G g0 N : Nat} {w : World} {u : Value} {L : List (List Int)} (h : RW G g0 N w u L) : ∃ a cap, u = .slice a L.length cap := by
  obtain ⟨a, cap, h1, _⟩ := h
  exact ⟨a, cap, h1⟩
theorem rw_cut {A : Ar} (hA : ck A = 0) {B G N : Nat} {w : World} {p : Option Addr} {cap : Nat} {u : Value} (hv : RdI G w (.slice p A.z.length cap) A.z) (hn : Ru.NilC (.slice p A.z.length cap)) (h1 : w.ownsRow B 23 1 u (rwN A) (cutL p cap (rwM A) (rwN A))) (hN : w.heap.size ≤ N) : RW G B N w u (rwL A) := by
  have hl := rwL_len hA
  rcases h1.2 with ⟨rfl, h0⟩ | ⟨g, cap', cur, rfl, hg, hh, r1, r2, r3, r4⟩
  · have : rwL A = [] := List.length_eq_zero_iff.1 (by omega)
    rw [this]
    exact ⟨none, 0, rfl, fun h => absurd rfl h⟩
  · refine ⟨_, cap', by rw [hl], fun _ => ⟨g, rfl, ⟨hg, Nat.lt_of_lt_of_le (Array.getElem?_eq_some_iff.1 hh).1 hN⟩, fun j hj => ?_⟩⟩
    have hj2 : j < rwN A := by omega
    refine ⟨_, (World.ownsRow.cellAt h1 j (by omega)).trans (cutL_at hj2), ?_, cut_nil hn⟩
    rw [rwL_get hA]
    exact cut_rd (ck_good hA) hv hj2
theorem rwL_vec {A : Ar} (hA : ck A = 0) (hr : A.r = 1) : rwL A = [A.z] := by
  obtain ⟨q1, q2, _, _⟩ := rw_vec (ck_good hA) hr
  unfold rwL
  rw [if_pos hA, q1]
  show [rwI A 0] = _
  unfold rwI
  rw [Nat.zero_mul, List.drop_zero, List.take_of_length_le (by omega)]
set_option maxRecDepth 100000 in
set_option maxHeartbeats 8000000 in
theorem rrows11_any (G : Nat) (A : Ar) (v : Value) (w : World) (hA : ck A = 0) (hr : A.r = 1 ∨ A.r = 2) (hG : G ≤ w.heap.size) (hv : RdI G w v A.z) (hn : Ru.NilC v) :
    Calls Tryd.prog 65 #[A5 A.k A.r A.a A.b v] w fun e w' => ∃ u, e = .returned u ∧ RW G w.heap.size w'.heap.size w' u (rwL A) ∧ Below w.heap.size w w' := by
  have h4 := (ck_good hA).len4
  by_cases h1 : A.r = 1
  · have HK := Lib.hid (KR.new A.k A.r A.a A.b (hv.mono hG))
    have x0 := HK.out.blk.c0; have x1 := HK.out.blk.c1; have x2 := HK.out.blk.c2; have x3 := HK.out.blk.c3; have x4 := HK.out.blk.c4
    have HN := Lib.hid hn
    have HL := Lib.hid (rwL_vec hA h1)
    have k1 : (A.r == 1) = true := by simpa using h1
    have HV := Lib.hid hv
    obtain ⟨p, cap, rfl, hcap, hcap2, hcell⟩ := hv
    clear hcell hA hr hn h1
    have HB : Hid (Below w.heap.size w ((w.alloc (.cells #[.int .i64 A.k, .int .i64 A.r, .int .i64 A.a, .int .i64 A.b, .slice p A.z.length cap] 25)).alloc (.cells #[.slice p A.z.length cap] 23))) := HK.out.bel.trans ((bel1 _ _).mono HK.out.bel.size)
    have HR : Hid (RdI G ((w.alloc (.cells #[.int .i64 A.k, .int .i64 A.r, .int .i64 A.a, .int .i64 A.b, .slice p A.z.length cap] 25)).alloc (.cells #[.slice p A.z.length cap] 23)) (.slice p A.z.length cap) A.z) := HV.out.below (HB.out.mono hG)
    have HC : Hid (((w.alloc (.cells #[.int .i64 A.k, .int .i64 A.r, .int .i64 A.a, .int .i64 A.b, .slice p A.z.length cap] 25)).alloc (.cells #[.slice p A.z.length cap] 23)).cell? ⟨w.heap.size + 1, 0, none⟩ = some (.slice p A.z.length cap)) := by
      have e : (w.alloc (.cells #[.int .i64 A.k, .int .i64 A.r, .int .i64 A.a, .int .i64 A.b, .slice p A.z.length cap] 25)).heap.size = w.heap.size + 1 := by simp
      unfold Hid; rw [← e]; unfold World.cell?; rw [heap_alloc_last]; rfl
    have HS : Hid (w.heap.size + 1 < ((w.alloc (.cells #[.int .i64 A.k, .int .i64 A.r, .int .i64 A.a, .int .i64 A.b, .slice p A.z.length cap] 25)).alloc (.cells #[.slice p A.z.length cap] 23)).heap.size) := by unfold Hid; simp
    clear HV
    go_enter Tryd.func65, Tryd.ntmps65
    go_wp2_with fail
    go_ret
    rw [HL.out]
    refine ⟨_, rfl, ⟨_, 1, rfl, fun _ => ⟨w.heap.size + 1, rfl, ⟨by omega, HS.out⟩, fun j hj => ?_⟩⟩, HB.out⟩
    have hj0 : j = 0 := by simp at hj; omega
    subst hj0
    exact ⟨_, HC.out, HR.out, HN.out⟩
  · have hr2 : A.r = 2 := by omega
    obtain ⟨a1, a2, r2, r3, r4⟩ := rw_mat (ck_good hA) hr2
    have HV := Lib.hid hv
    obtain ⟨p, cap, rfl, hcap, hcap2, hcell⟩ := hv
    rw [hr2, a1, a2]
    refine (rrows11_2 A.k (rwN A) (rwM A) A.z p cap w r2 h4 r3 r4 hcap hcap2 (HV.out.mono hG)).mono ?_
    rintro e w' ⟨u, rfl, h5, h6, h7⟩
    obtain ⟨a, c, h8, h9⟩ := rw_cut hA (HV.out.below (h7.mono hG)) hn h5 (Nat.le_refl _)
    refine ⟨u, rfl, ⟨a, c, h8, fun hne => ?_⟩, h7⟩
    obtain ⟨b, e, hb, hc⟩ := h9 hne
    exact ⟨b, e, ⟨by omega, hb.2⟩, hc⟩
set_option maxRecDepth 100000 in
set_option maxHeartbeats 8000000 in
theorem rsums_any (row : List Int) (v : Value) (w : World) (hv : RdI w.heap.size w v row) (h64 : in64 row) (hl : row.length ≤ 1000) :
    Calls Tryd.prog 66 #[v] w fun e w' => (∃ u, e = .returned (.tuple #[u, .int .i64 (sm1 row).2]) ∧ ((sm1 row).2 = 0 → RdN w.heap.size w' u (scL 0 row))) ∧ Below w.heap.size w w' := by
  have HT : Hid (∀ (x c : Int) W, Sc.inr x = true → Sc.inr c = true → Calls Tryd.prog 78 #[.int .i64 15, .int .i64 x, .int .i64 c] W fun e w' => e = .returned (.tuple #[.int .i64 (Sc.twoV 15 x c).1, .int .i64 (Sc.twoV 15 x c).2]) ∧ Below W.heap.size W w') := fun x c W hx hc => Sc.rtwo_any 15 x c W (inr_lo hx) (inr_hi hx) (inr_lo hc) (inr_hi hc)
  have HV := Lib.hid hv
  have HI := Lib.hid h64
  obtain ⟨n, hn⟩ : ∃ n, row.length = n := ⟨_, rfl⟩
  have HNl := Lib.hid hn
  obtain ⟨p, cap, rfl, hcap, hcap2, hcell⟩ := hv
  rw [hn] at hl hcap HV ⊢
  clear hcell h64 hn
  go_enter Tryd.func66, Tryd.ntmps66
  go_wp2_with fail
  go_loopg [4, 5, 6] n (fun gk u s i wr => ∃ (t : Nat) (U : Value), t + gk = n ∧ U = u ∧ s = .int .i64 (row.take t).sum ∧ i = .int .i64 t ∧ okS 0 (row.take t) = true ∧ Ru.Ins 2 wr w.heap.size U (scL 0 (row.take t)) ∧ Below w.heap.size w wr)
  case atStart => exact ⟨0, _, by omega, rfl, rfl, rfl, rfl, ins_nil _ _, Below.refl _ _⟩
  case round =>
    obtain ⟨t, u0, htg, rfl, rfl, rfl, hoks, hins, hbl⟩ := hrel
    have HOs := Lib.hid hoks
    have HIn := Lib.hid hins
    have HB := Lib.hid hbl
    clear hoks hins hbl
    cases gk with
    | zero =>
      have htz : ¬ ((t : Int) < (n : Int)) := by omega
      have htk : row.take t = row := List.take_of_length_le (by rw [HNl.out]; omega)
      have HR : Hid (RdN w.heap.size wr u0 (scL 0 row)) := by
        have h := HIn.out
        rw [htk] at h
        exact ins_new h
      have HE : Hid ((sm1 row).2 = 0) := by
        have h := HOs.out
        rw [htk] at h
        rw [sm1_yes h]; rfl
      clear htk HIn HOs HV HI HT
      generalize (row.take t).sum = sx
      go_wp2_with fail
      go_ret2
      exact ⟨⟨_, by rw [HE.out]; rfl, fun _ => HR.out⟩, HB.out⟩
    | succ g2 =>
      have htz : (t : Int) < (n : Int) := by omega
      have ht : t < n := by omega
      have hlr : t < row.length := by rw [HNl.out]; exact ht
      have hw1 : IntKind.i64.wrap ((t : Int) + 1) = (t : Int) + 1 := by rw [IntKind.wrap_i64]; omega
      obtain ⟨bk, off, rfl, hbk, hc0⟩ := HV.out.cells (by intro e; rw [e] at hlr; simp at hlr)
      have hc : wr.cell? ⟨bk, off + t, none⟩ = some (.int .i64 (row.getD t 0)) := (HB.out.cell (p := ⟨bk, off + t, none⟩) hbk).trans (by rw [hc0 t hlr, List.getD_eq_getElem?_getD, List.getElem?_eq_getElem hlr]; rfl)
      clear hc0
      have hic : Sc.inr (row.getD t 0) = true := HI.out.get t
      have his : Sc.inr (row.take t).sum = true := okS_inr (by omega) HOs.out
      have HTc := Lib.hid (fun W => HT.out (row.take t).sum (row.getD t 0) W his hic)
      have hts := take_sum hlr
      have hsl : (scL 0 (row.take t)).length + 1 ≤ 1000000 := by rw [scL_len, List.length_take]; omega
      by_cases hi : Sc.inr ((row.take t).sum + row.getD t 0) = true
      · have HOs2 := Lib.hid (take_okS hlr HOs.out hi)
        have HSc := Lib.hid (take_scL hlr)
        rw [show Sc.twoV 15 (row.take t).sum (row.getD t 0) = ((row.take t).sum + row.getD t 0, 0) from Sc.t15 rfl hi] at HTc
        have HTs := Lib.hid hts
        have HSl := Lib.hid hsl
        clear hts hi his hic hlr HOs HT hsl
        generalize row.getD t 0 = c at hc HTc HSc HTs
        generalize (row.take t).sum = s at HTc HSc HTs ⊢
        obtain ⟨sc, hsc⟩ : ∃ sc, s + c = sc := ⟨_, rfl⟩
        rw [hsc] at HTc HSc HTs
        clear hsc
        go_wp2_with (first | (go_at_call 78; (with_reducible refine (HTc.out _).mono ?_); rintro e w2 ⟨rfl, hb⟩; have HB2 := Lib.hid (HB.out.trans (hb.mono HB.out.size)); have HIn2 := Lib.hid (ins_next7 HIn.out hb); clear hb HTc hc) | (at_builtin; refine wpList_app1 (by simp [Region.wanted]) _ _ rfl w.heap.size _ _ rfl HIn2.out sc rfl HSl.out HB2.out.size ?_; intro u2 w3 hu2 hb2; rw [HSc.out] at hu2; have HU2 := Lib.hid hu2; have HB3 := Lib.hid (HB2.out.trans hb2); clear hu2 hb2) | fail)
        go_roundg g2
        case measure => omega
        case rel => exact ⟨t + 1, _, by omega, rfl, by rw [HTs.out], by go_num, HOs2.out, HU2.out, HB3.out⟩
      · have hbad := take_bad hlr hi
        have HBad : Hid ((sm1 row).2 = 12) := by rw [hbad]; exact rfl
        rw [show Sc.twoV 15 (row.take t).sum (row.getD t 0) = (0, 12) from Sc.t15o (by simpa using hi)] at HTc
        clear hts hi his hic hlr HOs HT hsl hbad
        generalize row.getD t 0 = c at hc HTc
        generalize (row.take t).sum = s at HTc ⊢
        go_wp2_with (first | (go_at_call 78; (with_reducible refine (HTc.out _).mono ?_); rintro e w2 ⟨rfl, hb⟩; have HB2 := Lib.hid (HB.out.trans (hb.mono HB.out.size)); clear hb HTc hc) | fail)
        go_ret2
        exact ⟨⟨_, by rw [HBad.out]; rfl, fun h => absurd (HBad.out.symm.trans h) (by decide)⟩, HB2.out⟩
end Go.Proofs.YtokmdgiialcokaaDoor
