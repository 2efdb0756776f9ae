/- The reference's Flip and Fill. -/
import Derived.Test.YtpbfbejckhbijaaGreatDoorMvU
namespace Go.Proofs.YtpbfbejckhbijaaGreatDoor
open Go.RowKit

theorem ins_nil (B : Nat) (w : World) : Ru.Ins 2 w B (.slice none 0 0) [] := World.ownsRow_nil _ _ _ _
/-- append of one number, laid in a block of its own just before. -/
theorem wpList_app1 {w0 : World} {ops : Array Oper} {rest : List Oper} {o : Oper} {a : Act} {Q : Exit → Act → World → Prop} (hgd : Region.wanted o (yielded ops a.tmps) = true) (s x : Operand)
    (ho : o.op = .call { callee := .builtin .append, args := #[s, x], argTypes := #[41, 41] }) (B : Nat) (v : Value) (l : List Int) (hs : a.eval s = v) (hown : Ru.Ins 2 w0 B v l) (m : Int)
    (hx : a.eval x = .slice (some ⟨w0.heap.size, 0, none⟩) 1 1) (hl : l.length + 1 ≤ 1000000) (hB : B ≤ w0.heap.size)
    (h : ∀ v' w', Ru.Ins 2 w' B v' (l ++ [m]) → Below B w0 w' → wpList Tryz.prog ops Q rest (a.put o.dst v') w') : wpList Tryz.prog ops Q (o :: rest) a (w0.alloc (.cells #[.int .i64 m] 2)) := by
  have hb := bel1 w0 (.cells #[.int .i64 m] 2)
  have ho2 : Ru.Ins 2 (w0.alloc (.cells #[.int .i64 m] 2)) B v l := World.ownsRow.alloc hown _
  refine Ru.wpList_append_is hgd s x ho B v l hs ho2 _ [m] hx _ (blk_rd (l := [m]) rfl (by simp) (heap_alloc_last w0 _)).ru (nil_some _ _ _) (by simpa using hl) (by simp; omega) ?_
  intro v' w' h1 h2
  exact h v' w' h1 ((hb.mono hB).trans (ins_grown ho2 (by simp; omega) h2))
theorem takeI_snoc {l : List Int} {k : Nat} (h : k < l.length) : l.take k ++ [l.getD k 0] = l.take (k + 1) := by
  rw [List.take_add_one, List.getElem?_eq_getElem h, List.getD_eq_getElem?_getD, List.getElem?_eq_getElem h]; rfl
/-- The reference's Matrix, spelled out. -/
theorem mat_lit7 {k m n : Int} {z : List Int} {v : Value} {w : World} (hv : RdI w.heap.size w v z) (hn : Ru.NilC v) (hl : z.length ≤ 100000) :
    Calls Tryz.prog 130 #[.int .i64 k, .int .i64 m, .int .i64 n, v] w fun e w' => ∃ q c, e = .returned (A5 k 2 m n (.slice q z.length c)) ∧ RdN w.heap.size w' (.slice q z.length c) z ∧ Below w.heap.size w w' := by
  refine (matrix7_any k m n z v w hv hn hl).mono ?_
  rintro e w' ⟨u, h1, h2, h3⟩
  obtain ⟨q, c, hq, _⟩ := h2.form
  have hq2 : u = .slice q z.length c := hq
  subst hq2
  exact ⟨q, c, h1, h2, h3⟩
theorem ins_nilC {w : World} {B : Nat} {v : Value} {l : List Int} (h : Ru.Ins 2 w B v l) : Ru.NilC v := (ins_new h).nilC
/-- What the loops of Flip keep. -/
structure Kf7 (w : World) (A : Ar) (v u : Value) (l : List Int) (W : World) : Prop where
  m : MK1 w A v W
  own : Ru.Ins 2 W (w.heap.size + 2) u l
theorem Kf7.step {w W W' : World} {A : Ar} {v u u' : Value} {l l' : List Int} (k : Kf7 w A v u l W) (h3 : 0 + 1 ≤ w.heap.size) (hi : Ru.Ins 2 W' (w.heap.size + 2) u' l') (hb : Below (w.heap.size + 2) W W') : Kf7 w A v u' l' W' :=
  ⟨k.m.far hb (k.m.lay.below (by omega) hb), hi⟩
theorem fp_snoc {A : Ar} {k i : Nat} (hk : k < rwM A) (hi : i < rwN A) : (fpZ A).take (k * rwN A + i) ++ [A.z.getD (i * rwM A + k) 0] = (fpZ A).take (k * rwN A + i + 1) := by
  rw [← takeI_snoc (by rw [fpZ, gl_len]; exact lt_at hk hi)]
  unfold fpZ
  rw [gl_at hk hi]

set_option maxRecDepth 100000 in
set_option maxHeartbeats 16000000 in
theorem rflip7_any (A : Ar) (v : Value) (w : World) (hw : Ru.Lay w) (hv : RdI w.heap.size w v A.z) (hl : A.z.length ≤ 100000) :
    Calls Tryz.prog 83 #[A5 A.k A.r A.a A.b v] w (RetE (fpV A) (fpEE A) w) := by
  have HCh := Lib.hid (fun W h => archeck_any A v W h (by omega))
  have HK := Lib.hid (MK1.new (A := A) hw hv)
  have HW3 := Lib.hid hw.size
  have x0 := HK.out.box.c0; have x1 := HK.out.box.c1; have x2 := HK.out.box.c2; have x3 := HK.out.box.c3; have x4 := HK.out.box.c4
  unfold fpV fpEE oneE
  by_cases h1 : ck A = 0
  · rw [if_pos h1]
    rw [h1] at HCh
    have hA := ck_good h1
    by_cases hr : A.r = 2
    · rw [if_neg (by omega), orNo_yes rfl]
      have k0 : (A.r != 2) = false := by simpa using hr
      obtain ⟨a1, a2, r2, r3, r4⟩ := rw_mat hA hr
      have HLen := Lib.hid (fpZ_len hA)
      have HSn := Lib.hid (fun k i hk hi => fp_snoc (A := A) (k := k) (i := i) hk hi)
      have hl4 := hA.len4
      obtain ⟨p, cap, rfl, hcap, hcap2, hcell⟩ := hv
      clear hcell hw h1 hA hr
      obtain ⟨n, hn⟩ : ∃ n, rwN A = n := ⟨_, rfl⟩
      obtain ⟨m, hm⟩ : ∃ m, rwM A = m := ⟨_, rfl⟩
      have HN := Lib.hid hn
      have HM := Lib.hid hm
      rw [hn] at a1 r2 r3 HSn
      rw [hm] at a2 r2 r4 HSn
      have r2s := r2.symm
      clear r2
      have HA1 := Lib.hid a1
      have HA2 := Lib.hid a2
      clear hn hm a1 a2
      go_enter Tryz.func83, Tryz.ntmps83
      go_wp2_with (go_at_call 27; (with_reducible refine (HCh.out _ HK.out.rdn).mono ?_); rintro e w1 ⟨rfl, hb⟩; have HK2 := Lib.hid (HK.out.next hb); clear HK x0 x1 x2 x3 x4; have HK := HK2; clear HK2; have x0 := HK.out.box.c0; have x1 := HK.out.box.c1; have x2 := HK.out.box.c2; have x3 := HK.out.box.c3; have x4 := HK.out.box.c4; clear hb)
      have HK0 : Hid (Kf7 w A (.slice p A.z.length cap) (.slice none 0 0) [] w1) := ⟨HK.out, ins_nil _ _⟩
      clear HK HCh x0 x1 x2 x3 x4
      go_loopg [5, 6] m (fun gk u q wr => ∃ (k : Nat) (U : Value), k + gk = m ∧ u = U ∧ q = .int .i64 k ∧ Kf7 w A (.slice p A.z.length cap) U ((fpZ A).take (k * n)) wr)
      case atStart => exact ⟨0, _, by omega, rfl, rfl, by rw [Nat.zero_mul]; exact HK0.out⟩
      case round =>
        obtain ⟨k, u5, hkg, rfl, rfl, hk⟩ := hrel
        have HV := Lib.hid hk
        clear hk HK0
        have x0 := HV.out.m.box.c0
        have x2 := HV.out.m.box.c2
        rw [HA1.out] at x2
        have x3 := HV.out.m.box.c3
        rw [HA2.out] at x3
        have x4 := HV.out.m.box.c4
        cases gk with
        | zero =>
          have hiz : ¬ ((k : Int) < (m : Int)) := by omega
          have HO : Hid (RdI wr.heap.size wr u5 (fpZ A)) := by
            have h := (ins_new HV.out.own).rd
            have ek : k = m := by omega
            rw [ek, List.take_of_length_le (by rw [HLen.out, ← r2s, Nat.mul_comm]; exact Nat.le_refl _)] at h
            exact h
          have HNl := Lib.hid (ins_nilC HV.out.own)
          have HMt := Lib.hid (mat_lit7 (k := A.k) (m := (m : Int)) (n := (n : Int)) HO.out HNl.out (by rw [HLen.out]; omega))
          have HK := Lib.hid HV.out.m
          clear HV HO HNl
          go_wp2_with (go_at_call 130; (with_reducible refine HMt.out.mono ?_); rintro e w3 ⟨q, qc, rfl, hu, hb⟩; have HU := Lib.hid hu; have hlt := HK.out.sz; have HK2 := Lib.hid (HK.out.next hb); clear hu hb HK; have y0 := HK2.out.res.c0; have y1 := HK2.out.res.c1; have y2 := HK2.out.res.c2; have y3 := HK2.out.res.c3; have y4 := HK2.out.res.c4; have f0 := HK2.out.res.fr 0; have f1 := HK2.out.res.fr 1; have f2 := HK2.out.res.fr 2; have f3 := HK2.out.res.fr 3; have f4 := HK2.out.res.fr 4; have HS := Lib.hid (HK2.out.res.set A.k 2 (m : Int) (n : Int) (.slice q (fpZ A).length qc)); have z0 := HS.out.c0; have z1 := HS.out.c1; have z2 := HS.out.c2; have z3 := HS.out.c3; have z4 := HS.out.c4)
          rw [show (⟨A.k, 2, A.b, A.a, fpZ A⟩ : Ar) = ⟨A.k, 2, (m : Int), (n : Int), fpZ A⟩ by rw [HA1.out, HA2.out]]
          refine bodyPost_ret (v := .tuple #[A5 A.k 2 (m : Int) (n : Int) (.slice q (fpZ A).length qc), .int .i64 0]) (by simp [results, Tryz.results83, go_sem, z0, z1, z2, z3, z4]) rfl ?_
          exact ⟨_, rfl, (HU.out.st5 (by omega) _ _ _ _ _).mono (by omega), st5_below _ _ _ _ _ (by omega) HK2.out.bel⟩
        | succ g2 =>
          have hiz : (k : Int) < (m : Int) := by omega
          have hk : k < m := by omega
          have hwi : IntKind.i64.wrap ((k : Int) + 1) = (k : Int) + 1 := by rw [IntKind.wrap_i64]; omega
          have HKm : Hid ((k + 1) * n = k * n + n) := by unfold Hid; rw [Nat.add_mul, Nat.one_mul]
          go_wp2
          clear x0 x2 x3 x4
          go_loopg [5, 7] n (fun gk u q wr => ∃ (i : Nat) (U : Value), i + gk = n ∧ u = U ∧ q = .int .i64 i ∧ Kf7 w A (.slice p A.z.length cap) U ((fpZ A).take (k * n + i)) wr)
          case atStart => exact ⟨0, _, by omega, rfl, rfl, HV.out⟩
          case round =>
            obtain ⟨i, v5, hig, rfl, rfl, hk2⟩ := hrel
            have HI := Lib.hid hk2
            clear hk2 HV
            have x0 := HI.out.m.box.c0
            have x2 := HI.out.m.box.c2
            rw [HA1.out] at x2
            have x3 := HI.out.m.box.c3
            rw [HA2.out] at x3
            have x4 := HI.out.m.box.c4
            cases gk with
            | zero =>
              have hjz : ¬ ((i : Int) < (n : Int)) := by omega
              have HVn : Hid (Kf7 w A (.slice p A.z.length cap) u5 ((fpZ A).take ((k + 1) * n)) wr) := by
                have e : i = n := by omega
                have h := HI.out
                rw [e] at h
                rw [HKm.out]
                exact h
              go_wp2
              go_roundg g2
              case measure => omega
              case rel => exact ⟨k + 1, _, by omega, rfl, by go_num, HVn.out⟩
            | succ g3 =>
              have hjz : (i : Int) < (n : Int) := by omega
              have hi : i < n := by omega
              have hle := Nat.mul_le_mul_right m (show i + 1 ≤ n by omega)
              rw [Nat.add_mul, Nat.one_mul] at hle
              have hlt : i * m + k < A.z.length := by omega
              obtain ⟨b1, o1, he, hb1, hc⟩ := HI.out.m.rd.cells (by intro e; rw [e] at hlt; simp at hlt)
              cases he
              have x1 := hc (i * m + k) hlt
              have HSk := Lib.hid (HSn.out k i hk hi)
              have hval : (A.z)[i * m + k] = A.z.getD (i * m + k) 0 := by rw [List.getD_eq_getElem?_getD, List.getElem?_eq_getElem hlt]; rfl
              have HSq : Hid ((fpZ A).take (k * n + i) ++ [(A.z)[i * m + k]] = (fpZ A).take (k * n + (i + 1))) := by rw [hval]; exact HSk.out
              clear hval HSk
              generalize (A.z)[i * m + k] = c at x1 HSq
              clear hc
              have hlen : ((fpZ A).take (k * n + i)).length + 1 ≤ 1000000 := by rw [List.length_take, HLen.out]; omega
              obtain ⟨s, hs⟩ : ∃ s, i * m + k = s := ⟨_, rfl⟩
              obtain ⟨d, hd⟩ : ∃ d, i * m = d := ⟨_, rfl⟩
              have hw1 : IntKind.i64.wrap ((i : Int) * (m : Int)) = (d : Int) := by rw [← Int.natCast_mul, IntKind.wrap_i64, hd]; omega
              have hw2 : IntKind.i64.wrap ((d : Int) + (k : Int)) = (s : Int) := by rw [IntKind.wrap_i64]; omega
              have hs1 : (s : Int) < (A.z.length : Int) := by omega
              rw [hs] at x1
              have hwj : IntKind.i64.wrap ((i : Int) + 1) = (i : Int) + 1 := by rw [IntKind.wrap_i64]; omega
              have hsz : w.heap.size + 2 ≤ wr.heap.size := HI.out.m.sz
              clear hs hd hle hlt
              generalize hT : (fpZ A).take (k * n + i) = T at HI HSq hlen ⊢
              clear hT
              go_wp2_with (at_builtin; refine wpList_app1 (by simp [Region.wanted]) _ _ rfl (w.heap.size + 2) _ T rfl HI.out.own c rfl hlen hsz ?_; intro u2 w2 hu2 hb2; have HI2 := Lib.hid (HI.out.step HW3.out hu2 hb2); clear hu2 hb2)
              rw [HSq.out] at HI2
              go_roundg g3
              case measure => omega
              case rel => exact ⟨i + 1, _, by omega, rfl, by go_num, HI2.out⟩
    · rw [if_pos (by omega), orNo_no (by decide)]
      have k0 : (A.r != 2) = true := by simpa using hr
      obtain ⟨p, cap, rfl, hcap, hcap2, hcell⟩ := hv
      clear hcell hw h1 hA hr
      go_enter Tryz.func83, Tryz.ntmps83
      go_wp2_with (go_at_call 27; (with_reducible refine (HCh.out _ HK.out.rdn).mono ?_); rintro e w1 ⟨rfl, hb⟩; have HK2 := Lib.hid (HK.out.next hb); clear HK x0 x1 x2 x3 x4; have HK := HK2; clear HK2; have x0 := HK.out.box.c0; have x1 := HK.out.box.c1; have x2 := HK.out.box.c2; have x3 := HK.out.box.c3; have x4 := HK.out.box.c4; clear hb; have y0 := HK.out.res.c0; have y1 := HK.out.res.c1; have y2 := HK.out.res.c2; have y3 := HK.out.res.c3; have y4 := HK.out.res.c4; have f0 := HK.out.res.fr 0; have f1 := HK.out.res.fr 1; have f2 := HK.out.res.fr 2; have f3 := HK.out.res.fr 3; have f4 := HK.out.res.fr 4; have HS := Lib.hid (HK.out.res.set 0 0 0 0 (.slice none 0 0)); have z0 := HS.out.c0; have z1 := HS.out.c1; have z2 := HS.out.c2; have z3 := HS.out.c3; have z4 := HS.out.c4)
      exact bodyPost_ret (v := .tuple #[A5 0 0 0 0 (.slice none 0 0), .int .i64 22]) (by simp [results, Tryz.results83, go_sem, z0, z1, z2, z3, z4]) rfl (retE_no _ (st5_below _ _ _ _ _ (by omega) HK.out.bel))
  · rw [if_neg h1, orNo_no h1]
    obtain ⟨E, hE⟩ : ∃ E, ck A = E := ⟨_, rfl⟩
    rw [hE] at h1 HCh ⊢
    have k1 : (E != 0) = true := by simpa using h1
    have k2 : (E == 0) = false := by simpa using h1
    obtain ⟨p, cap, rfl, hcap, hcap2, hcell⟩ := hv
    clear h1 hE hcell hw
    go_enter Tryz.func83, Tryz.ntmps83
    go_wp2_with (go_at_call 27; (with_reducible refine (HCh.out _ HK.out.rdn).mono ?_); rintro e w1 ⟨rfl, hb⟩; have HK2 := Lib.hid (HK.out.next hb); clear HK x0 x1 x2 x3 x4; have HK := HK2; clear HK2; have x0 := HK.out.box.c0; have x1 := HK.out.box.c1; have x2 := HK.out.box.c2; have x3 := HK.out.box.c3; have x4 := HK.out.box.c4; clear hb; have y0 := HK.out.res.c0; have y1 := HK.out.res.c1; have y2 := HK.out.res.c2; have y3 := HK.out.res.c3; have y4 := HK.out.res.c4; have f0 := HK.out.res.fr 0; have f1 := HK.out.res.fr 1; have f2 := HK.out.res.fr 2; have f3 := HK.out.res.fr 3; have f4 := HK.out.res.fr 4; have HS := Lib.hid (HK.out.res.set 0 0 0 0 (.slice none 0 0)); have z0 := HS.out.c0; have z1 := HS.out.c1; have z2 := HS.out.c2; have z3 := HS.out.c3; have z4 := HS.out.c4)
    exact bodyPost_ret (v := .tuple #[A5 0 0 0 0 (.slice none 0 0), .int .i64 E]) (by simp [results, Tryz.results83, go_sem, z0, z1, z2, z3, z4]) rfl (retE_no _ (st5_below _ _ _ _ _ (by omega) HK.out.bel))
end Go.Proofs.YtpbfbejckhbijaaGreatDoor
