/- Make and Zero of the code, vector of numbers, Int, Ints; the reference's Zero and Int. -/
import Derived.Test.YtpbfbejckhbijaaGreatDoorArD
namespace Go.Proofs.YtpbfbejckhbijaaGreatDoor
open Go.RowKit

/-- What a walk keeps that makes an array of parts. -/
structure KB (w : World) (a b : Int) (v : Value) (z : List Int) (w' : World) : Prop where
  bel : Below w.heap.size w w'
  box : R2 w' w.heap.size a b
  res : R5 w' (w.heap.size + 1) 0 0 0 0 (.slice none 0 0)
  rd : RdI w'.heap.size w' v z
  lay : Ru.Lay w'
theorem KB.next {w w' w'' : World} {a b : Int} {v : Value} {z : List Int} (h : KB w a b v z w') (hb : Below w'.heap.size w' w'') : KB w a b v z w'' :=
  ⟨h.bel.trans (hb.mono h.bel.size), h.box.next hb, h.res.next hb, h.rd.next hb, h.lay.next hb⟩
theorem KB.new {w : World} {v : Value} {z : List Int} (a b : Int) (hw : Ru.Lay w) (hv : RdI w.heap.size w v z) : KB w a b v z ((w.alloc (.cells #[.int .i64 a, .int .i64 b] 40)).alloc (.cells #[.int .i64 0, .int .i64 0, .int .i64 0, .int .i64 0, .slice none 0 0] 43)) := by
  have hb : Below w.heap.size w ((w.alloc (.cells #[.int .i64 a, .int .i64 b] 40)).alloc (.cells #[.int .i64 0, .int .i64 0, .int .i64 0, .int .i64 0, .slice none 0 0] 43)) := (bel1 _ _).trans ((bel1 _ _).mono (by simp))
  refine ⟨hb, (R2.new w a b).alloc _, ?_, hv.next hb, (hw.alloc _).alloc _⟩
  have : (w.alloc (.cells #[.int .i64 a, .int .i64 b] 40)).heap.size = w.heap.size + 1 := by simp
  rw [← this]; exact R5.new _ _ _ _ _ _
theorem rd_nil (B : Nat) (w : World) : RdI B w (.slice none 0 0) [] := ⟨none, 0, rfl, Nat.le_refl _, by omega, fun h => absurd rfl h⟩
theorem retE_no {w w' : World} (n : Int) (hb : Below w.heap.size w w') : RetE Ar.no n w (.returned (.tuple #[A5 0 0 0 0 (.slice none 0 0), .int .i64 n])) w' := ⟨_, rfl, RdN.nil _ _, hb⟩
theorem mk_no {A : Ar} (h : ck A ≠ 0) : mk A = Ar.no := by unfold mk; exact if_neg h
theorem mk_yes {A : Ar} (h : ck A = 0) : mk A = A := by unfold mk; exact if_pos h

set_option maxRecDepth 100000 in
set_option maxHeartbeats 4000000 in
theorem make_any (k r a b : Int) (z : List Int) (v : Value) (w : World) (hw : Ru.Lay w) (hv : RdI w.heap.size w v z) (hl : z.length ≤ 1000000) :
    Calls Tryz.prog 107 #[.int .i64 k, .int .i64 r, P2 a b, v] w (RetE (mk ⟨k, r, a, b, z⟩) (ck ⟨k, r, a, b, z⟩) w) := by
  have HC : Hid (∀ W, Ru.Lay W → RdI W.heap.size W v z → Calls Tryz.prog 103 #[A5 k r a b v] W fun e w' => e = .returned (.int .i64 (ck ⟨k, r, a, b, z⟩)) ∧ Below W.heap.size W w') := fun W h1 h2 => acheck_any ⟨k, r, a, b, z⟩ v W h1 h2 hl
  have HK := Lib.hid (KB.new a b hw hv)
  have x0 := HK.out.box.c0; have x1 := HK.out.box.c1
  have HF : Hid (∀ W, z.length ≤ 500 → RdI W.heap.size W v z → Calls Tryz.prog 149 #[.int .i64 k, .int .i64 r, P2 a b, v] W (RetA ⟨k, r, a, b, z⟩ W)) := fun W h0 h => filled_any k r a b v z W h h0
  obtain ⟨p, cap, rfl, hcap, hcap2, hcell⟩ := hv
  clear hcell
  by_cases hk : ck ⟨k, r, a, b, z⟩ = 0
  · have hz : z.length ≤ 500 := by have := (ck_good hk).len4; simp at this; omega
    rw [mk_yes hk, hk]
    rw [hk] at HC
    clear hk hw
    go_enter Tryz.func107, Tryz.ntmps107
    go_wp2_with (first
      | (go_at_call 103; refine (HC.out _ HK.out.lay HK.out.rd).mono ?_; rintro e w' ⟨rfl, hb⟩; have HK2 := Lib.hid (HK.out.next hb); clear HK hb x0 x1; have HK := HK2; clear HK2; have x0 := HK.out.box.c0; have x1 := HK.out.box.c1)
      | (go_at_call 149; refine (HF.out _ hz HK.out.rd).mono ?_; rintro e w' ⟨u, rfl, hu, hb⟩; have HU := Lib.hid hu; obtain ⟨q, qc, rfl, hqc, hqd⟩ := hu.form; have HR := Lib.hid (HK.out.res.next hb); have HB := Lib.hid (HK.out.bel.trans (hb.mono HK.out.bel.size)); have hlt := HK.out.res.lt; clear HK hu x0 x1; have y0 := HR.out.c0; have y1 := HR.out.c1; have y2 := HR.out.c2; have y3 := HR.out.c3; have y4 := HR.out.c4; have f0 := HR.out.fr 0; have f1 := HR.out.fr 1; have f2 := HR.out.fr 2; have f3 := HR.out.fr 3; have f4 := HR.out.fr 4; have HS := Lib.hid (HR.out.set k r a b (.slice q z.length qc)); have z0 := HS.out.c0; have z1 := HS.out.c1; have z2 := HS.out.c2; have z3 := HS.out.c3; have z4 := HS.out.c4))
    refine bodyPost_ret (v := .tuple #[A5 k r a b (.slice q z.length qc), .int .i64 0]) (by simp [results, Tryz.results107, go_sem, z0, z1, z2, z3, z4]) rfl ?_
    exact ⟨_, rfl, (HU.out.st5 hlt _ _ _ _ _).mono (by omega), st5_below _ _ _ _ _ (by omega) HB.out⟩
  · rw [mk_no hk]
    obtain ⟨E, hE⟩ : ∃ E, ck ⟨k, r, a, b, z⟩ = E := ⟨_, rfl⟩
    rw [hE] at hk HC ⊢
    have k1 : (E != 0) = true := by simpa using hk
    clear hk hE
    go_enter Tryz.func107, Tryz.ntmps107
    go_wp2_with (first
      | (go_at_call 103; refine (HC.out _ HK.out.lay HK.out.rd).mono ?_; rintro e w' ⟨rfl, hb⟩; have HK2 := Lib.hid (HK.out.next hb); clear HK hb x0 x1; have HK := HK2; clear HK2; have y0 := HK.out.res.c0; have y1 := HK.out.res.c1; have y2 := HK.out.res.c2; have y3 := HK.out.res.c3; have y4 := HK.out.res.c4; have f0 := HK.out.res.fr 0; have f1 := HK.out.res.fr 1; have f2 := HK.out.res.fr 2; have f3 := HK.out.res.fr 3; have f4 := HK.out.res.fr 4; have HS := Lib.hid (HK.out.res.set 0 0 0 0 (.slice none 0 0)); have z0 := HS.out.c0; have z1 := HS.out.c1; have z2 := HS.out.c2; have z3 := HS.out.c3; have z4 := HS.out.c4))
    exact bodyPost_ret (v := .tuple #[A5 0 0 0 0 (.slice none 0 0), .int .i64 E]) (by simp [results, Tryz.results107, go_sem, z0, z1, z2, z3, z4]) rfl (retE_no E (st5_below _ _ _ _ _ (by omega) HK.out.bel))

theorem made_row (z : Nat) (W : World) : (W.alloc (.cells (madeCells (Value.int .i64 0).cells z) 2)).rowIs W.heap.size 2 z (fun _ => .int .i64 0) := World.rowIs_made W (.int .i64 0) z 2
/-- What Zero returns. -/
def zeE (k r : Int) : Int := if k ≠ 1 ∧ k ≠ 2 then 2 else if r < 0 ∨ 2 < r then 7 else 0
def zeV (k r : Int) : Ar := if zeE k r = 0 then ⟨k, r, 0, 0, if r = 0 then [0] else []⟩ else Ar.no
/-- How many cells Zero makes. -/
def zeN (r : Int) : Nat := if r = 0 then 1 else 0
theorem ze_cV (r : Int) : cV r 0 0 = (zeN r : Int) := by
  unfold cV zeN ckS cn
  by_cases h0 : r = 0
  · subst h0; decide
  · rw [if_neg h0]
    by_cases h1 : r = 1
    · subst h1; decide
    · by_cases h2 : r = 2
      · subst h2; decide
      · rw [if_pos (show r < 0 ∨ 2 < r ∨ (1 ≤ r ∧ (0:Int) < 0) ∨ (2 ≤ r ∧ (0:Int) < 0) by omega), if_neg (by decide), if_neg h0]; rfl
theorem ze_ck (k r : Int) : ck ⟨k, r, 0, 0, List.replicate (zeN r) 0⟩ = zeE k r ∧ mk ⟨k, r, 0, 0, List.replicate (zeN r) 0⟩ = zeV k r := by
  have h : ck ⟨k, r, 0, 0, List.replicate (zeN r) 0⟩ = zeE k r := by
    unfold ck zeE
    simp only
    by_cases hk : k ≠ 1 ∧ k ≠ 2
    · rw [if_pos hk, if_pos hk]
    · rw [if_neg hk, if_neg hk]
      by_cases h0 : r = 0
      · subst h0
        rw [if_neg (by decide), if_neg (by decide), if_neg (by simp [zeN, Ru.isR]), if_neg (by decide)]
      · by_cases h1 : r = 1
        · subst h1
          rw [if_neg (by decide), if_neg (by decide), if_neg (by simp [zeN]), if_neg (by decide)]
        · by_cases h2 : r = 2
          · subst h2
            rw [if_neg (by decide), if_neg (by decide), if_neg (by simp [zeN]), if_neg (by decide)]
          · have e : ckS r 0 0 = 7 := by unfold ckS; rw [if_pos (by omega)]
            rw [e, if_pos (by decide), if_pos (by omega)]
  refine ⟨h, ?_⟩
  unfold mk zeV
  rw [h]
  unfold zeN
  by_cases h0 : r = 0 <;> simp [h0]
/-- What a walk of Zero keeps. -/
structure KZ (w : World) (w' : World) : Prop where
  bel : Below w.heap.size w w'
  res : R5 w' w.heap.size 0 0 0 0 (.slice none 0 0)
  lay : Ru.Lay w'
theorem KZ.next {w w' w'' : World} (h : KZ w w') (hb : Below w'.heap.size w' w'') : KZ w w'' := ⟨h.bel.trans (hb.mono h.bel.size), h.res.next hb, h.lay.next hb⟩
theorem KZ.new {w : World} (hw : Ru.Lay w) : KZ w (w.alloc (.cells #[.int .i64 0, .int .i64 0, .int .i64 0, .int .i64 0, .slice none 0 0] 43)) := ⟨bel1 _ _, R5.new _ _ _ _ _ _, hw.alloc _⟩
theorem made_rd (n : Nat) (W : World) (hn : n ≤ 1) : RdI (W.alloc (.cells (madeCells (Value.int .i64 0).cells n) 2)).heap.size (W.alloc (.cells (madeCells (Value.int .i64 0).cells n) 2)) (.slice (some ⟨W.heap.size, 0, none⟩) n n) (List.replicate n 0) := by
  refine zf_all (by simp) ((made_row n W).congr fun i hi => ?_) (by omega)
  unfold zf
  rw [if_pos hi, List.getD_eq_getElem?_getD, List.getElem?_replicate]
  simp [hi]

end Go.Proofs.YtpbfbejckhbijaaGreatDoor
