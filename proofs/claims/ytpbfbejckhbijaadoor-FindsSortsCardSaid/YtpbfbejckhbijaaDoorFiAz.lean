/- Several texts as one (a claim has at most 60 files): FiA, FiB, FiC, FiD, FiE. -/
import Derived.Test.YtpbfbejckhbijaaDoorExC
import Derived.Test.YtpbfbejckhbijaaDoorMvPj
import Derived.Test.YtpbfbejckhbijaaDoorMvV
import Derived.Test.YtpbfbejckhbijaaDoorExB
import Derived.Test.YtpbfbejckhbijaaDoorMvX
namespace Go.Proofs.YtpbfbejckhbijaaDoor
open Go.RowKit

/-- What a fault says after the operands' own. -/
def fkV (kd rk : Bool) (e : Int) : Int := if e ≠ 0 then e else if kd = false then 21 else if rk = false then 22 else 0
def oneF (A : Ar) (k r : Int) : Int := if ck A = 0 then (if A.k = k then (if A.r = r then 0 else 22) else 21) else ck A
theorem oneF_ok {A : Ar} {k r : Int} (h : oneF A k r = 0) : ck A = 0 ∧ A.k = k ∧ A.r = r := by
  unfold oneF at h
  split at h
  · split at h
    · split at h
      · exact ⟨by assumption, by assumption, by assumption⟩
      · cases h
    · cases h
  · contradiction
theorem fk_one (A : Ar) (k r : Int) : fkV (A.k == k) (A.r == r) (ck A) = oneF A k r := by
  unfold fkV oneF
  by_cases h : ck A = 0
  · rw [if_neg (not_not_intro h), if_pos h]
    by_cases h1 : A.k = k
    · by_cases h2 : A.r = r
      · simp [h1, h2]
      · simp [h1, h2]
    · simp [h1]
  · rw [if_pos h, if_neg h]
/-- Shape. -/
def shZ (A : Ar) : List Int := if A.r = 0 then [] else if A.r = 1 then [A.a] else [A.a, A.b]
def shV (A : Ar) : Ar := orNo (ck A) (vecA 1 (shZ A))
/-- The first numbers from 0 on. -/
def upZ (n : Nat) : List Int := (List.range n).map Int.ofNat
theorem upZ_len (n : Nat) : (upZ n).length = n := by simp [upZ]
theorem upZ_at {n i : Nat} (h : i < n) : (upZ n).getD i 0 = (i : Int) := by simp [upZ, List.getD_eq_getElem?_getD, h]
def ioE (N : Ar) : Int := if oneF N 1 0 = 0 then (if fst1 N < 0 then 13 else if 400 < fst1 N then 15 else 0) else oneF N 1 0
def ioV (N : Ar) : Ar := orNo (ioE N) (vecA 1 (upZ (fst1 N).toNat))
/-- Cells at places. -/
def inS (n : Nat) (p : Int) : Bool := decide (0 ≤ p) && decide (p < n)
def lkT (V I : Ar) : Int := twoE V I V.k 1 1 1 0 1
def lkE (V I : Ar) : Int := if lkT V I = 0 then (if I.z.all (inS V.z.length) = true then 0 else 14) else lkT V I
def lkZ (V I : Ar) : List Int := I.z.map fun p => V.z.getD p.toNat 0
def lkV (V I : Ar) : Ar := orNo (lkE V I) ⟨V.k, I.r, I.a, I.b, lkZ V I⟩
/-- Which cells a vector has. -/
def mbE (A V : Ar) : Int := twoE A V V.k V.k 0 2 1 1
def mbZ (A V : Ar) : List Int := A.z.map fun x => if x ∈ V.z then 1 else 0
def mbV (A V : Ar) : Ar := orNo (mbE A V) ⟨1, A.r, A.a, A.b, mbZ A V⟩
/-- The cells where another vector is not 0. -/
def pkZ : List Int → List Int → List Int
  | m :: ms, v :: vs => if m = 0 then pkZ ms vs else v :: pkZ ms vs
  | _, _ => []
theorem pkZ_le : ∀ m v : List Int, (pkZ m v).length ≤ v.length
  | m :: ms, v :: vs => by
    have := pkZ_le ms vs
    unfold pkZ
    split
    · simp only [List.length_cons]; omega
    · simp only [List.length_cons]; omega
  | [], v => by simp [pkZ]
  | _ :: _, [] => by simp [pkZ]
theorem pkZ_nil (v : List Int) : pkZ [] v = [] := by simp [pkZ]
theorem pkZ_snoc : ∀ {m v : List Int} (x y : Int), m.length = v.length → pkZ (m ++ [x]) (v ++ [y]) = if x = 0 then pkZ m v else pkZ m v ++ [y]
  | [], [], x, y, _ => by simp [pkZ]
  | a :: m, b :: v, x, y, h => by
    have := pkZ_snoc (m := m) (v := v) x y (by simpa using h)
    simp only [List.cons_append, pkZ]
    split
    · exact this
    · rw [this]
      split
      · rfl
      · rfl
  | [], _ :: _, _, _, h => by simp at h
  | _ :: _, [], _, _, h => by simp at h
theorem pkZ_take {m v : List Int} (h : m.length = v.length) {j : Nat} (hj : j < m.length) : pkZ (m.take (j + 1)) (v.take (j + 1)) = if m.getD j 0 = 0 then pkZ (m.take j) (v.take j) else pkZ (m.take j) (v.take j) ++ [v.getD j 0] := by
  rw [← takeI_snoc hj, ← takeI_snoc (l := v) (by omega)]
  exact pkZ_snoc _ _ (by rw [List.length_take, List.length_take]; omega)
def pkT (M V : Ar) : Int := twoE M V 1 V.k 1 1 1 1
def pkE (M V : Ar) : Int := if pkT M V = 0 then (if M.z.length = V.z.length then 0 else 11) else pkT M V
def pkV (M V : Ar) : Ar := orNo (pkE M V) (vecA V.k (pkZ M.z V.z))
theorem twoE_ok {A B : Ar} {kA kB lA mA lB mB : Int} (h : twoE A B kA kB lA mA lB mB = 0) : ck A = 0 ∧ ck B = 0 ∧ (A.k = kA ∧ B.k = kB) ∧ lA ≤ A.r ∧ A.r ≤ mA ∧ lB ≤ B.r ∧ B.r ≤ mB := by
  unfold twoE at h
  split at h
  · split at h
    · split at h
      · split at h
        · cases h
        · refine ⟨by assumption, by assumption, by assumption, ?_⟩
          omega
      · cases h
    · contradiction
  · contradiction
theorem fk_two (A B : Ar) (kd rk : Bool) (kA kB lA mA lB mB : Int) (hk : kd = true ↔ A.k = kA ∧ B.k = kB) (hr : ck A = 0 → ck B = 0 → (rk = true ↔ lA ≤ A.r ∧ A.r ≤ mA ∧ lB ≤ B.r ∧ B.r ≤ mB)) :
    fkV kd rk (if ck A ≠ 0 then ck A else ck B) = twoE A B kA kB lA mA lB mB := by
  unfold fkV twoE
  by_cases h : ck A = 0
  · rw [if_neg (not_not_intro h), if_pos h]
    by_cases h1 : ck B = 0
    · rw [if_neg (not_not_intro h1), if_pos h1]
      by_cases h2 : A.k = kA ∧ B.k = kB
      · rw [if_pos h2, if_neg (by rw [hk.2 h2]; decide)]
        have := hr h h1
        by_cases h3 : lA ≤ A.r ∧ A.r ≤ mA ∧ lB ≤ B.r ∧ B.r ≤ mB
        · rw [if_neg (by rw [this.2 h3]; decide), if_neg (by omega)]
        · have e : rk = false := by
            cases rk
            · rfl
            · exact absurd (this.1 rfl) h3
          rw [if_pos e, if_pos (by omega)]
      · have e : kd = false := by
          cases kd
          · rfl
          · exact absurd (hk.1 rfl) h2
        rw [if_neg h2, if_pos e]
    · rw [if_pos h1, if_neg h1]
  · rw [if_pos h, if_pos h, if_neg h]
/-- What they return are arrays. -/
theorem shV_ck (A : Ar) : ck (vecA 1 (shZ A)) = 0 := by
  refine ck_vec (.inl rfl) ?_ (fun e => by cases e)
  unfold shZ
  split
  · decide
  · split <;> simp
theorem ioV_ck {N : Ar} (h : ioE N = 0) : ck (vecA 1 (upZ (fst1 N).toNat)) = 0 := by
  refine ck_vec (.inl rfl) ?_ (fun e => by cases e)
  rw [upZ_len]
  unfold ioE at h
  split at h
  · split at h
    · cases h
    · split at h
      · cases h
      · omega
  · contradiction
theorem all_get {l : List Int} {p : Int → Bool} (h : l.all p = true) {i : Nat} (hi : i < l.length) : p (l.getD i 0) = true := by
  rw [List.getD_eq_getElem?_getD, List.getElem?_eq_getElem hi]
  exact List.all_eq_true.1 h _ (List.getElem_mem hi)
theorem lkE_ok {V I : Ar} (h : lkE V I = 0) : lkT V I = 0 ∧ I.z.all (inS V.z.length) = true := by
  unfold lkE at h
  split at h
  · split at h
    · exact ⟨by assumption, by assumption⟩
    · cases h
  · contradiction
theorem lk_ck {V I : Ar} (h : lkE V I = 0) : ck ⟨V.k, I.r, I.a, I.b, lkZ V I⟩ = 0 := by
  obtain ⟨h1, h2⟩ := lkE_ok h
  obtain ⟨hV, hI, _, _⟩ := twoE_ok h1
  have gV := ck_good hV
  have gI := ck_good hI
  refine good_ck ⟨gV.kind, gI.sh, by show ((lkZ V I).length : Int) = _; unfold lkZ; rw [List.length_map]; exact gI.len, fun e => ?_⟩
  refine List.all_eq_true.2 fun x hx => ?_
  obtain ⟨p, hp, rfl⟩ := List.mem_map.1 hx
  have hq := List.all_eq_true.1 h2 p hp
  unfold inS at hq
  rw [Bool.and_eq_true, decide_eq_true_iff, decide_eq_true_iff] at hq
  exact all_get (gV.runes e) (by omega)
theorem mb_ck {A V : Ar} (h : mbE A V = 0) : ck ⟨1, A.r, A.a, A.b, mbZ A V⟩ = 0 := by
  obtain ⟨hA, hV, _, _⟩ := twoE_ok h
  have gA := ck_good hA
  exact good_ck ⟨.inl rfl, gA.sh, by show ((mbZ A V).length : Int) = _; unfold mbZ; rw [List.length_map]; exact gA.len, fun e => by cases e⟩
theorem pkZ_mem : ∀ {m v : List Int} {x : Int}, x ∈ pkZ m v → x ∈ v
  | m :: ms, v :: vs, x, h => by
    unfold pkZ at h
    split at h
    · exact List.mem_cons_of_mem _ (pkZ_mem h)
    · rcases List.mem_cons.1 h with rfl | h
      · exact List.mem_cons_self
      · exact List.mem_cons_of_mem _ (pkZ_mem h)
  | [], v, x, h => by simp [pkZ] at h
  | _ :: _, [], x, h => by simp [pkZ] at h
theorem pk_ck {M V : Ar} (h : pkT M V = 0) : ck (vecA V.k (pkZ M.z V.z)) = 0 := by
  obtain ⟨_, hV, _, _⟩ := twoE_ok h
  have gV := ck_good hV
  have := pkZ_le M.z V.z
  have := gV.len4
  exact ck_vec gV.kind (by omega) fun e => List.all_eq_true.2 fun x hx => List.all_eq_true.1 (gV.runes e) x (pkZ_mem hx)
theorem shV_len (A : Ar) : (shV A).z.length ≤ 400 := by
  unfold shV orNo
  split
  · show (shZ A).length ≤ 400
    unfold shZ
    split
    · decide
    · split <;> simp
  · exact Nat.zero_le _
end Go.Proofs.YtpbfbejckhbijaaDoor
namespace Go.Proofs.YtpbfbejckhbijaaDoor
open Go.RowKit

set_option maxRecDepth 100000 in
set_option maxHeartbeats 4000000 in
theorem ifault_any (kd rk : Bool) (L : List (Ar × Value)) (g : Nat) (w : World) (hw : Ru.Lay w) (hL : L.length ≤ 10) (hg : g < w.heap.size)
    (hc : ∀ j (hj : j < L.length), ArAt w g (j * 5) L[j].1 L[j].2) (hr : ∀ j (hj : j < L.length), RdI w.heap.size w L[j].2 L[j].1.z ∧ L[j].1.z.length ≤ 1000000) :
    Calls Tryd.prog 20 #[.bool kd, .bool rk, .slice (some ⟨g, 0, none⟩) L.length L.length] w fun e w' => e = .returned (.int .i64 (fkV kd rk (feL (ckL L)))) ∧ Below w.heap.size w w' := by
  have HC := Lib.hid hc
  have HR := Lib.hid hr
  have HW := Lib.hid hw
  have HCh := Lib.hid (fun A v W h1 h2 h3 => acheck_any A v W h1 h2 h3)
  have HLn : Hid ((ckL L).length = L.length) := by unfold Hid; simp [ckL]
  have HAt : Hid (∀ j (hj : j < L.length), (ckL L)[j]? = some (0, ck L[j].1)) := fun j hj => by simp [ckL, hj]
  clear hc hr hw
  generalize ckL L = cs at HLn HAt ⊢
  generalize hF : feL cs = F
  have HF := Lib.hid hF
  clear hF
  cases kd <;> cases rk
  all_goals
    go_enter Tryd.func20, Tryd.ntmps20
    go_wp2
    go_loopg [12] L.length (fun gk i wr => ∃ j : Nat, j + gk = L.length ∧ i = .int .i64 j ∧ okT cs j ∧ Below w.heap.size w wr)
    case atStart => exact ⟨0, by omega, rfl, okT_zero _, Below.refl _ _⟩
    case round =>
      obtain ⟨j, hjg, rfl, hck, hbl⟩ := hrel
      have HCk := Lib.hid hck
      have HB := Lib.hid hbl
      clear hck hbl
      cases gk with
      | zero =>
        have hjz : ¬ ((j : Int) < (L.length : Int)) := by omega
        have HZ : Hid (F = 0) := by
          have h := HCk.out
          rw [show j = L.length by omega] at h
          exact HF.out.symm.trans (okT_all h HLn.out)
        clear HCk
        go_wp2
        go_ret
        exact ⟨by rw [HZ.out]; rfl, HB.out⟩
      | succ g2 =>
        have hjz : (j : Int) < (L.length : Int) := by omega
        have hj : j < L.length := by omega
        have HO := Lib.hid ((HC.out j hj).below hg HB.out)
        have HV := Lib.hid (((HR.out j hj).1.below HB.out).mono HB.out.size)
        have hz := (HR.out j hj).2
        have HEx : Hid (∀ (E : Int), ck L[j].1 = E → E ≠ 0 → F = E) := fun E e n => HF.out.symm.trans (okT_bad HCk.out (by rw [HAt.out j hj, e]) n)
        have HNx : Hid (ck L[j].1 = 0 → okT cs (j + 1)) := fun e => okT_next HCk.out (by rw [HAt.out j hj, e])
        generalize L[j] = x at HO HV hz HEx HNx
        obtain ⟨⟨k, r, a, b, z⟩, v⟩ := x
        simp only at HV hz HEx HNx
        have x0 := HO.out.c0; have x1 := HO.out.c1; have x2 := HO.out.c2; have x3 := HO.out.c3; have x4 := HO.out.c4
        simp only at x0 x1 x2 x3 x4
        have HV2 := Lib.hid HV.out
        obtain ⟨p, cap, rfl, hcap, hcap2, hcell⟩ := HV.out
        clear hcell HV
        have HA1 : Hid (Below wr.heap.size wr (wr.alloc (.cells #[.int .i64 k, .int .i64 r, .int .i64 a, .int .i64 b, .slice p z.length cap] 25))) := bel1 _ _
        have HB2 := Lib.hid (HB.out.trans (HA1.out.mono HB.out.size))
        have HLA := Lib.hid (HW.out.next HB2.out)
        have HRA := Lib.hid (HV2.out.next HA1.out)
        have HC1 := Lib.hid (fun W h1 h2 => HCh.out ⟨k, r, a, b, z⟩ (.slice p z.length cap) W h1 h2 hz)
        obtain ⟨E, hE⟩ : ∃ E, ck ⟨k, r, a, b, z⟩ = E := ⟨_, rfl⟩
        rw [hE] at HC1 HNx HEx
        clear hE hz
        by_cases h0 : E = 0
        · have HN2 := Lib.hid (HNx.out h0)
          subst h0
          go_wp2_with (go_at_call 33; (with_reducible refine (HC1.out _ HLA.out HRA.out).mono ?_); rintro e w' ⟨rfl, hb⟩; have HB3 := Lib.hid (HB2.out.trans (hb.mono HB2.out.size)); clear hb)
          go_roundg g2
          case measure => omega
          case rel => exact ⟨j + 1, by omega, by go_num, HN2.out, HB3.out⟩
        · have HFE := Lib.hid (HEx.out E rfl h0)
          have HNz := Lib.hid h0
          have k1 : (E != 0) = true := by simpa using h0
          clear h0
          go_wp2_with (go_at_call 33; (with_reducible refine (HC1.out _ HLA.out HRA.out).mono ?_); rintro e w' ⟨rfl, hb⟩; have HB3 := Lib.hid (HB2.out.trans (hb.mono HB2.out.size)); clear hb)
          go_ret
          exact ⟨ret_int7 (by rw [HFE.out]; unfold fkV; rw [if_pos HNz.out]), HB3.out⟩
theorem ifault1_any (kd rk : Bool) (A : Ar) (v : Value) (W : World) (g : Nat) (hg : W.heap.size = g) (hw : Ru.Lay W) (hv : RdI W.heap.size W v A.z) (hl : A.z.length ≤ 1000000) :
    Calls Tryd.prog 20 #[.bool kd, .bool rk, .slice (some ⟨g, 0, none⟩) 1 1] (W.alloc (.cells #[.int .i64 A.k, .int .i64 A.r, .int .i64 A.a, .int .i64 A.b, v] 25)) fun e w' => e = .returned (.int .i64 (fkV kd rk (ck A))) ∧ Below W.heap.size W w' := by
  subst hg
  have hb := bel1 W (.cells #[.int .i64 A.k, .int .i64 A.r, .int .i64 A.a, .int .i64 A.b, v] 25)
  refine (ifault_any kd rk [(A, v)] W.heap.size _ (hw.next hb) (by simp) (by simp) (fun j hj => ?_) (fun j hj => ?_)).mono fun e w' ⟨h1, h3⟩ => ⟨by rw [h1]; simp only [ckL, List.map_cons, List.map_nil, feL]; rw [show (if ck A = 0 then (0 : Int) else ck A) = ck A by split <;> simp_all], hb.trans (h3.mono hb.size)⟩
  all_goals
    obtain rfl : j = 0 := by simp at hj; omega
  · constructor <;> (unfold World.cell?; rw [heap_alloc_last]; rfl)
  · exact ⟨hv.next hb, hl⟩
theorem ifault2_any (kd rk : Bool) (A B : Ar) (v u : Value) (W : World) (g : Nat) (hg : W.heap.size = g) (hw : Ru.Lay W) (hv : RdI W.heap.size W v A.z) (hu : RdI W.heap.size W u B.z) (hl : A.z.length ≤ 1000000) (hl' : B.z.length ≤ 1000000) :
    Calls Tryd.prog 20 #[.bool kd, .bool rk, .slice (some ⟨g, 0, none⟩) 2 2] (W.alloc (.cells #[.int .i64 A.k, .int .i64 A.r, .int .i64 A.a, .int .i64 A.b, v, .int .i64 B.k, .int .i64 B.r, .int .i64 B.a, .int .i64 B.b, u] 25)) fun e w' => e = .returned (.int .i64 (fkV kd rk (if ck A ≠ 0 then ck A else ck B))) ∧ Below W.heap.size W w' := by
  subst hg
  have hb := bel1 W (.cells #[.int .i64 A.k, .int .i64 A.r, .int .i64 A.a, .int .i64 A.b, v, .int .i64 B.k, .int .i64 B.r, .int .i64 B.a, .int .i64 B.b, u] 25)
  obtain ⟨ha, hb2⟩ := at2_new A B v u W
  refine (ifault_any kd rk [(A, v), (B, u)] W.heap.size _ (hw.next hb) (by simp) (by simp) (fun j hj => ?_) (fun j hj => ?_)).mono fun e w' ⟨h1, h3⟩ => ⟨by rw [h1]; simp only [ckL, List.map_cons, List.map_nil, feL]; rw [show (if ck A = 0 then (if ck B = 0 then (0 : Int) else ck B) else ck A) = (if ck A ≠ 0 then ck A else ck B) by split <;> simp_all], hb.trans (h3.mono hb.size)⟩
  · have : j = 0 ∨ j = 1 := by simp at hj; omega
    rcases this with rfl | rfl
    · exact ha
    · exact hb2
  · have : j = 0 ∨ j = 1 := by simp at hj; omega
    rcases this with rfl | rfl
    · exact ⟨hv.next hb, hl⟩
    · exact ⟨hu.next hb, hl'⟩
set_option maxRecDepth 100000 in
set_option maxHeartbeats 4000000 in
theorem places_any (n : Nat) (w : World) (hl : n ≤ 1000) :
    Calls Tryd.prog 24 #[.int .i64 n] w fun e w' => e = .returned (.slice (some ⟨w.heap.size, 0, none⟩) n n) ∧ w'.rowIs w.heap.size 2 n (zf (upZ n) n) ∧ Below w.heap.size w w' := by
  obtain ⟨i0, hi, hz0, hz1, hz2⟩ := info_parts info64
  have hmk := run_make (P := Tryd.prog) w 23 2 i0 (.int .i64 0) Tryd.underlying23 hi hz0 .i64 .i64 n n (by omega) (by omega) (by rw [hz2]; omega) (by omega)
  rw [Int.toNat_natCast, hz1, Nat.mul_one] at hmk
  have HR0 : Hid ((w.alloc (.cells (madeCells (Value.int .i64 0).cells n) 2)).rowIs w.heap.size 2 n (zf (upZ n) 0)) := (World.rowIs_made w (.int .i64 0) n 2).congr fun i _ => by unfold zf; rw [if_neg (by omega)]
  have HB0 : Hid (Below w.heap.size w (w.alloc (.cells (madeCells (Value.int .i64 0).cells n) 2))) := bel1 w _
  generalize hW1 : w.alloc (.cells (madeCells (Value.int .i64 0).cells n) 2) = W1 at hmk HB0 HR0
  clear hW1
  go_enter Tryd.func24, Tryd.ntmps24
  go_wp2
  clear hmk
  go_loopg [4, 9] n (fun g s i wr => ∃ j : Nat, j + g = n ∧ i = .int .i64 j ∧ Below w.heap.size w wr ∧ wr.rowIs w.heap.size 2 n (zf (upZ n) j))
  case atStart => exact ⟨0, by omega, rfl, HB0.out, HR0.out⟩
  case round =>
    obtain ⟨j, hjg, rfl, hbl, hrow⟩ := hrel
    have HRo := Lib.hid hrow
    have HBl := Lib.hid hbl
    clear hrow hbl
    cases gk with
    | zero =>
      have hjz : ¬ ((j : Int) < (n : Int)) := by omega
      have HJ : Hid (j = n) := by unfold Hid; omega
      go_wp2
      go_ret
      refine ⟨rfl, ?_, HBl.out⟩
      have := HRo.out
      rwa [HJ.out] at this
    | succ g =>
      have hjz : (j : Int) < (n : Int) := by omega
      have hj : j < n := by omega
      have hy : wr.cell? ⟨w.heap.size, j, none⟩ = some (.int .i64 0) := by
        rw [HRo.out.cell hj]; unfold zf; rw [if_neg (by omega)]
      have hyf : wr.frozen? ⟨w.heap.size, j, none⟩ = false := HRo.out.frozen j
      go_wp2
      go_roundg g
      case measure => omega
      case rel => exact ⟨j + 1, by omega, by go_num, HBl.out.setCell (p := ⟨w.heap.size, j, none⟩) (Nat.le_refl _) _, zf_next HRo.out (upZ_at hj)⟩
set_option maxRecDepth 100000 in
set_option maxHeartbeats 4000000 in
theorem rone_any8 (A : Ar) (r : Int) (v : Value) (w : World) (hv : RdI w.heap.size w v A.z) (hl : A.z.length ≤ 1000000) :
    Calls Tryd.prog 29 #[A5 A.k A.r A.a A.b v, .int .i64 r] w fun e w' => e = .returned (.int .i64 (oneF A 1 r)) ∧ Below w.heap.size w w' := by
  have HC := Lib.hid (fun W h => archeck_any A v W h hl)
  have HK := Lib.hid (KR.new A.k A.r A.a A.b hv)
  have x0 := HK.out.blk.c0; have x1 := HK.out.blk.c1; have x2 := HK.out.blk.c2; have x3 := HK.out.blk.c3; have x4 := HK.out.blk.c4
  obtain ⟨p, cap, rfl, hcap, hcap2, hcell⟩ := hv
  clear hcell
  unfold oneF
  obtain ⟨E, hE⟩ : ∃ E, ck A = E := ⟨_, rfl⟩
  rw [hE] at HC ⊢
  clear hE
  by_cases h0 : E = 0
  · subst h0
    rw [if_pos rfl]
    by_cases h1 : A.k = 1
    · have k1 : (A.k != 1) = false := by simpa using h1
      rw [if_pos h1]
      clear h1
      by_cases h2 : A.r = r
      · have k2 : (A.r != r) = false := by simpa using h2
        rw [if_pos h2]
        clear h2
        go_enter Tryd.func29, Tryd.ntmps29
        go_wp2_with (go_at_call 31; (with_reducible refine (HC.out _ HK.out.rd).mono ?_); rintro e w' ⟨rfl, hb⟩; have HK2 := Lib.hid (HK.out.next hb); clear hb HK x0 x1 x2 x3 x4; have HK := HK2; clear HK2; have x0 := HK.out.blk.c0; have x1 := HK.out.blk.c1; have x2 := HK.out.blk.c2; have x3 := HK.out.blk.c3; have x4 := HK.out.blk.c4)
        go_ret
        exact ⟨rfl, HK.out.bel⟩
      · have k2 : (A.r != r) = true := by simpa using h2
        rw [if_neg h2]
        clear h2
        go_enter Tryd.func29, Tryd.ntmps29
        go_wp2_with (go_at_call 31; (with_reducible refine (HC.out _ HK.out.rd).mono ?_); rintro e w' ⟨rfl, hb⟩; have HK2 := Lib.hid (HK.out.next hb); clear hb HK x0 x1 x2 x3 x4; have HK := HK2; clear HK2; have x0 := HK.out.blk.c0; have x1 := HK.out.blk.c1; have x2 := HK.out.blk.c2; have x3 := HK.out.blk.c3; have x4 := HK.out.blk.c4)
        go_ret
        exact ⟨rfl, HK.out.bel⟩
    · have k1 : (A.k != 1) = true := by simpa using h1
      rw [if_neg h1]
      clear h1
      go_enter Tryd.func29, Tryd.ntmps29
      go_wp2_with (go_at_call 31; (with_reducible refine (HC.out _ HK.out.rd).mono ?_); rintro e w' ⟨rfl, hb⟩; have HK2 := Lib.hid (HK.out.next hb); clear hb HK x0 x1 x2 x3 x4; have HK := HK2; clear HK2; have x0 := HK.out.blk.c0; have x1 := HK.out.blk.c1; have x2 := HK.out.blk.c2; have x3 := HK.out.blk.c3; have x4 := HK.out.blk.c4)
      go_ret
      exact ⟨rfl, HK.out.bel⟩
  · have k0 : (E == 0) = false := by simpa using h0
    rw [if_neg h0]
    clear h0
    go_enter Tryd.func29, Tryd.ntmps29
    go_wp2_with (go_at_call 31; (with_reducible refine (HC.out _ HK.out.rd).mono ?_); rintro e w' ⟨rfl, hb⟩; have HK2 := Lib.hid (HK.out.next hb); clear hb HK x0 x1 x2 x3 x4; have HK := HK2; clear HK2; have x0 := HK.out.blk.c0; have x1 := HK.out.blk.c1; have x2 := HK.out.blk.c2; have x3 := HK.out.blk.c3; have x4 := HK.out.blk.c4)
    go_ret
    exact ⟨rfl, HK.out.bel⟩
end Go.Proofs.YtpbfbejckhbijaaDoor
namespace Go.Proofs.YtpbfbejckhbijaaDoor
open Go.RowKit

set_option maxRecDepth 100000 in
set_option maxHeartbeats 16000000 in
theorem iiota_any (A : Ar) (v : Value) (w : World) (hw : Ru.Lay w) (hv : RdI w.heap.size w v A.z) (hl : A.z.length ≤ 100000) :
    Calls Tryd.prog 14 #[A5 A.k A.r A.a A.b v] w (RetE (ioV A) (ioE A) w) := by
  have HFa : Hid (∀ W g, W.heap.size = g → Ru.Lay W → RdI W.heap.size W v A.z → Calls Tryd.prog 20 #[.bool (A.k == 1), .bool (A.r == 0), .slice (some ⟨g, 0, none⟩) 1 1] (W.alloc (.cells #[.int .i64 A.k, .int .i64 A.r, .int .i64 A.a, .int .i64 A.b, v] 25)) fun e w' => e = .returned (.int .i64 (oneF A 1 0)) ∧ Below W.heap.size W w') := fun W g hg h1 h2 => by
    have h := ifault1_any (A.k == 1) (A.r == 0) A v W g hg h1 h2 (by omega)
    rwa [fk_one] at h
  have HK := Lib.hid (MK1.new (A := A) hw hv)
  have HW3 := Lib.hid hw.size
  have x0 := HK.out.box.c0; have x1 := HK.out.box.c1; have x2 := HK.out.box.c2; have x3 := HK.out.box.c3; have x4 := HK.out.box.c4
  obtain ⟨p, cap, rfl, _, _, _⟩ := hv
  clear hw
  by_cases h1 : oneF A 1 0 = 0
  · have hE : ioE A = if fst1 A < 0 then 13 else if 400 < fst1 A then 15 else 0 := if_pos h1
    have hV : ioV A = orNo (ioE A) (vecA 1 (upZ (fst1 A).toNat)) := rfl
    rw [hV, hE]
    obtain ⟨hc, hk1, hr⟩ := oneF_ok h1
    have hz := scalar_one (ck_good hc) hr
    have HN1 : Hid (0 < A.z.length) := by unfold Hid; omega
    rw [h1] at HFa
    clear h1 hE hV hc hr hz hk1
    generalize hn : fst1 A = n
    have HFn := Lib.hid hn
    clear hn
    have hN0 : (0 : Int) < (A.z.length : Int) := by have := HN1.out; omega
    by_cases h1 : n < 0
    · rw [if_pos h1, orNo_no (by decide)]
      have k1 : decide (n < 0) = true := decide_eq_true h1
      go_enter Tryd.func14, Tryd.ntmps14
      go_wp2_with (go_at_call 20; (with_reducible refine (HFa.out _ _ (by first | rfl | simp) HK.out.lay HK.out.rdn).mono ?_); rintro e w1 ⟨rfl, hb⟩; have HK2 := Lib.hid (HK.out.next hb); clear HK x0 x1 x2 x3 x4; have HK := HK2; clear HK2; have x0 := HK.out.box.c0; have x1 := HK.out.box.c1; have x2 := HK.out.box.c2; have x3 := HK.out.box.c3; have x4 := HK.out.box.c4; clear hb; obtain ⟨b1, o1, hbe, _, hn1⟩ := fst1_cell HK.out.rdn HN1.out; cases hbe; rw [HFn.out] at hn1; have y0 := HK.out.res.c0; have y1 := HK.out.res.c1; have y2 := HK.out.res.c2; have y3 := HK.out.res.c3; have y4 := HK.out.res.c4; have f0 := HK.out.res.fr 0; have f1 := HK.out.res.fr 1; have f2 := HK.out.res.fr 2; have f3 := HK.out.res.fr 3; have f4 := HK.out.res.fr 4; have HS := Lib.hid (HK.out.res.set 0 0 0 0 (.slice none 0 0)); have z0 := HS.out.c0; have z1 := HS.out.c1; have z2 := HS.out.c2; have z3 := HS.out.c3; have z4 := HS.out.c4)
      exact bodyPost_ret (v := .tuple #[A5 0 0 0 0 (.slice none 0 0), .int .i64 13]) (by simp [results, Tryd.results14, go_sem, z0, z1, z2, z3, z4]) rfl (retE_no _ (st5_below _ _ _ _ _ (by omega) HK.out.bel))
    · rw [if_neg h1]
      by_cases h2 : 400 < n
      · rw [if_pos h2, orNo_no (by decide)]
        have k1 : decide (n < 0) = false := decide_eq_false h1
        have k2 : decide (400 < n) = true := decide_eq_true h2
        clear h1 h2
        go_enter Tryd.func14, Tryd.ntmps14
        go_wp2_with (go_at_call 20; (with_reducible refine (HFa.out _ _ (by first | rfl | simp) HK.out.lay HK.out.rdn).mono ?_); rintro e w1 ⟨rfl, hb⟩; have HK2 := Lib.hid (HK.out.next hb); clear HK x0 x1 x2 x3 x4; have HK := HK2; clear HK2; have x0 := HK.out.box.c0; have x1 := HK.out.box.c1; have x2 := HK.out.box.c2; have x3 := HK.out.box.c3; have x4 := HK.out.box.c4; clear hb; obtain ⟨b1, o1, hbe, _, hn1⟩ := fst1_cell HK.out.rdn HN1.out; cases hbe; rw [HFn.out] at hn1; have y0 := HK.out.res.c0; have y1 := HK.out.res.c1; have y2 := HK.out.res.c2; have y3 := HK.out.res.c3; have y4 := HK.out.res.c4; have f0 := HK.out.res.fr 0; have f1 := HK.out.res.fr 1; have f2 := HK.out.res.fr 2; have f3 := HK.out.res.fr 3; have f4 := HK.out.res.fr 4; have HS := Lib.hid (HK.out.res.set 0 0 0 0 (.slice none 0 0)); have z0 := HS.out.c0; have z1 := HS.out.c1; have z2 := HS.out.c2; have z3 := HS.out.c3; have z4 := HS.out.c4)
        exact bodyPost_ret (v := .tuple #[A5 0 0 0 0 (.slice none 0 0), .int .i64 15]) (by simp [results, Tryd.results14, go_sem, z0, z1, z2, z3, z4]) rfl (retE_no _ (st5_below _ _ _ _ _ (by omega) HK.out.bel))
      · rw [if_neg h2, orNo_yes rfl]
        obtain ⟨m, hm⟩ : ∃ m : Nat, n = (m : Int) := ⟨n.toNat, by omega⟩
        subst hm
        rw [Int.toNat_natCast]
        have hm4 : m ≤ 400 := by omega
        have k1 : decide ((m : Int) < 0) = false := decide_eq_false (by omega)
        have k2 : decide (400 < (m : Int)) = false := decide_eq_false (by omega)
        clear h1 h2
        have HPl := Lib.hid (fun W => places_any m W (by omega))
        have HIn : Hid (∀ W v, RdI W.heap.size W v (upZ m) → Calls Tryd.prog 28 #[v] W (RetE ⟨1, 1, (upZ m).length, 0, upZ m⟩ 0 W)) := fun W v h => by
          have h' := ints_any (upZ m) v W h
          rwa [show vcV 1 (upZ m) = ⟨1, 1, (upZ m).length, 0, upZ m⟩ from if_neg (by rw [upZ_len]; omega), show vcE (upZ m) = 0 from if_neg (by rw [upZ_len]; omega)] at h'
        have HZl := Lib.hid (upZ_len m)
        have HRd : Hid (∀ W g, W.rowIs g 2 m (zf (upZ m) m) → RdI W.heap.size W (.slice (some ⟨g, 0, none⟩) m m) (upZ m)) := fun W g h => zf_all (upZ_len m) h (by omega)
        generalize upZ m = Z at HPl HIn HZl HRd ⊢
        go_enter Tryd.func14, Tryd.ntmps14
        go_wp2_with (first
          | (go_at_call 20; (with_reducible refine (HFa.out _ _ (by first | rfl | simp) HK.out.lay HK.out.rdn).mono ?_); rintro e w1 ⟨rfl, hb⟩; have HK2 := Lib.hid (HK.out.next hb); clear HK x0 x1 x2 x3 x4; have HK := HK2; clear HK2; have x0 := HK.out.box.c0; have x1 := HK.out.box.c1; have x2 := HK.out.box.c2; have x3 := HK.out.box.c3; have x4 := HK.out.box.c4; clear hb; obtain ⟨b1, o1, hbe, _, hn1⟩ := fst1_cell HK.out.rdn HN1.out; cases hbe; rw [HFn.out] at hn1)
          | (go_at_call 24; (with_reducible refine (HPl.out _).mono ?_); rintro e w2 ⟨rfl, hr, hb⟩; have HRw := Lib.hid (HRd.out _ _ hr); clear hr; have HK2 := Lib.hid (HK.out.next hb); clear HK x0 x1 x2 x3 x4; have HK := HK2; clear HK2; have x0 := HK.out.box.c0; have x1 := HK.out.box.c1; have x2 := HK.out.box.c2; have x3 := HK.out.box.c3; have x4 := HK.out.box.c4; clear hb)
          | (go_at_call 28; (with_reducible refine (HIn.out _ _ HRw.out).mono ?_); rintro e w3 ⟨u, rfl, hu, hb⟩; obtain ⟨q, qc, hq, _, _⟩ := hu.form; have hq2 : u = .slice q Z.length qc := hq; subst hq2; clear hq; have HU : Hid (RdN w2.heap.size w3 (.slice q Z.length qc) Z) := hu; have hlt := HK.out.sz; have HK2 := Lib.hid (HK.out.next hb); clear HK x0 x1 x2 x3 x4; have HK := HK2; clear HK2; have x0 := HK.out.box.c0; have x1 := HK.out.box.c1; have x2 := HK.out.box.c2; have x3 := HK.out.box.c3; have x4 := HK.out.box.c4; clear hu hb; have y0 := HK.out.res.c0; have y1 := HK.out.res.c1; have y2 := HK.out.res.c2; have y3 := HK.out.res.c3; have y4 := HK.out.res.c4; have f0 := HK.out.res.fr 0; have f1 := HK.out.res.fr 1; have f2 := HK.out.res.fr 2; have f3 := HK.out.res.fr 3; have f4 := HK.out.res.fr 4; have HS := Lib.hid (HK.out.res.set 1 1 Z.length 0 (.slice q Z.length qc)); have z0 := HS.out.c0; have z1 := HS.out.c1; have z2 := HS.out.c2; have z3 := HS.out.c3; have z4 := HS.out.c4)
          | fail)
        refine bodyPost_ret (v := .tuple #[A5 1 1 Z.length 0 (.slice q Z.length qc), .int .i64 0]) (by simp [results, Tryd.results14, go_sem, z0, z1, z2, z3, z4]) rfl ?_
        exact ⟨_, rfl, (HU.out.st5 (by omega) _ _ _ _ _).mono (by omega), st5_below _ _ _ _ _ (by omega) HK.out.bel⟩
  · have hE : ioE A = oneF A 1 0 := if_neg h1
    rw [show ioV A = Ar.no from orNo_no (by rw [hE]; exact h1), hE]
    clear hE
    generalize oneF A 1 0 = E at h1 HFa ⊢
    have k1 : (E != 0) = true := by simpa using h1
    have k2 : (E == 0) = false := by simpa using h1
    clear h1
    go_enter Tryd.func14, Tryd.ntmps14
    go_wp2_with (go_at_call 20; (with_reducible refine (HFa.out _ _ (by first | rfl | simp) HK.out.lay HK.out.rdn).mono ?_); rintro e w1 ⟨rfl, hb⟩; have HK2 := Lib.hid (HK.out.next hb); clear HK x0 x1 x2 x3 x4; have HK := HK2; clear HK2; have x0 := HK.out.box.c0; have x1 := HK.out.box.c1; have x2 := HK.out.box.c2; have x3 := HK.out.box.c3; have x4 := HK.out.box.c4; clear hb; have y0 := HK.out.res.c0; have y1 := HK.out.res.c1; have y2 := HK.out.res.c2; have y3 := HK.out.res.c3; have y4 := HK.out.res.c4; have f0 := HK.out.res.fr 0; have f1 := HK.out.res.fr 1; have f2 := HK.out.res.fr 2; have f3 := HK.out.res.fr 3; have f4 := HK.out.res.fr 4; have HS := Lib.hid (HK.out.res.set 0 0 0 0 (.slice none 0 0)); have z0 := HS.out.c0; have z1 := HS.out.c1; have z2 := HS.out.c2; have z3 := HS.out.c3; have z4 := HS.out.c4)
    exact bodyPost_ret (v := .tuple #[A5 0 0 0 0 (.slice none 0 0), .int .i64 E]) (by simp [results, Tryd.results14, go_sem, z0, z1, z2, z3, z4]) rfl (retE_no _ (st5_below _ _ _ _ _ (by omega) HK.out.bel))
end Go.Proofs.YtpbfbejckhbijaaDoor
namespace Go.Proofs.YtpbfbejckhbijaaDoor
open Go.RowKit

set_option maxRecDepth 100000 in
set_option maxHeartbeats 16000000 in
theorem ishape_any (A : Ar) (v : Value) (w : World) (hw : Ru.Lay w) (hv : RdI w.heap.size w v A.z) (hl : A.z.length ≤ 100000) :
    Calls Tryd.prog 18 #[A5 A.k A.r A.a A.b v] w (RetE (shV A) (ck A) w) := by
  have HC := Lib.hid (fun W h0 h1 => acheck_any A v W h0 h1 (by omega))
  have HK := Lib.hid (MK1.new (A := A) hw hv)
  have HW3 := Lib.hid hw.size
  have x0 := HK.out.box.c0; have x1 := HK.out.box.c1; have x2 := HK.out.box.c2; have x3 := HK.out.box.c3; have x4 := HK.out.box.c4
  obtain ⟨p, cap, rfl, _, _, _⟩ := hv
  clear hw
  unfold shV
  by_cases h1 : ck A = 0
  · rw [orNo_yes h1, h1]
    rw [h1] at HC
    have hr3 := (ck_good h1).r3
    clear h1
    rcases hr3 with hr | hr | hr
    · rw [show shZ A = [] by unfold shZ; rw [if_pos hr]]
      rw [hr] at x1
      have HX1 : Hid (A.r = 0) := hr
      clear hr
      have HIn : Hid (∀ W u, RdI W.heap.size W u [] → Calls Tryd.prog 28 #[u] W (RetE ⟨1, 1, 0, 0, []⟩ 0 W)) := fun W u h => ints_any [] u W h
      go_enter Tryd.func18, Tryd.ntmps18
      go_wp2_with (go_at_call 33; (with_reducible refine (HC.out _ HK.out.lay HK.out.rdn).mono ?_); rintro e w1 ⟨rfl, hb⟩; have HK2 := Lib.hid (HK.out.next hb); clear HK x0 x1 x2 x3 x4; have HK := HK2; clear HK2; have x0 := HK.out.box.c0; have x1 := HK.out.box.c1; have x2 := HK.out.box.c2; have x3 := HK.out.box.c3; have x4 := HK.out.box.c4; clear hb; have hrx := HX1.out; rw [hrx] at x1; clear hrx)
      have HK0 : Hid (Kf7 w A (.slice p A.z.length cap) (.slice none 0 0) [] w1) := ⟨HK.out, ins_nil _ _⟩
      clear HK HC x0 x1 x2 x3 x4
      go_loopg [5, 7, 19] 0 (fun gk s x q wr => (gk = 0 ∧ q = .int .i64 0 ∧ ∃ U : Value, s = U ∧ Kf7 w A (.slice p A.z.length cap) U [] wr))
      case atStart => exact ⟨rfl, rfl, _, rfl, HK0.out⟩
      case round =>
        clear HK0
        rcases hrel with ⟨rfl, rfl, U, rfl, hk⟩
        · have HV := Lib.hid hk
          clear hk
          have HRd := Lib.hid (ins_new HV.out.own).rd
          have HNl := Lib.hid (ins_nilC HV.out.own)
          have HK := Lib.hid HV.out.m
          clear HV
          go_wp2_with (go_at_call 28; (with_reducible refine (HIn.out _ _ HRd.out).mono ?_); rintro e w3 ⟨u, rfl, hu, hb⟩; obtain ⟨q, qc, hq, _, _⟩ := hu.form; have hq2 : u = .slice q 0 qc := hq; subst hq2; clear hq; have HU : Hid (RdN wr.heap.size w3 (.slice q 0 qc) []) := hu; have hlt := HK.out.sz; have HK2 := Lib.hid (HK.out.next hb); clear hu hb HK; have HK := HK2; clear HK2; have y0 := HK.out.res.c0; have y1 := HK.out.res.c1; have y2 := HK.out.res.c2; have y3 := HK.out.res.c3; have y4 := HK.out.res.c4; have f0 := HK.out.res.fr 0; have f1 := HK.out.res.fr 1; have f2 := HK.out.res.fr 2; have f3 := HK.out.res.fr 3; have f4 := HK.out.res.fr 4; have HS := Lib.hid (HK.out.res.set 1 1 0 0 (.slice q 0 qc)); have z0 := HS.out.c0; have z1 := HS.out.c1; have z2 := HS.out.c2; have z3 := HS.out.c3; have z4 := HS.out.c4)
          refine bodyPost_ret (v := .tuple #[A5 1 1 0 0 (.slice q 0 qc), .int .i64 0]) (by simp [results, Tryd.results18, go_sem, z0, z1, z2, z3, z4]) rfl ?_
          exact ⟨_, rfl, (HU.out.st5 (by omega) _ _ _ _ _).mono (by omega), st5_below _ _ _ _ _ (by omega) HK.out.bel⟩
    · rw [show shZ A = [A.a] by unfold shZ; rw [if_neg (by omega), if_pos hr]]
      rw [hr] at x1
      have HX1 : Hid (A.r = 1) := hr
      clear hr
      have HIn : Hid (∀ W u, RdI W.heap.size W u [A.a] → Calls Tryd.prog 28 #[u] W (RetE ⟨1, 1, 1, 0, [A.a]⟩ 0 W)) := fun W u h => ints_any [A.a] u W h
      go_enter Tryd.func18, Tryd.ntmps18
      go_wp2_with (go_at_call 33; (with_reducible refine (HC.out _ HK.out.lay HK.out.rdn).mono ?_); rintro e w1 ⟨rfl, hb⟩; have HK2 := Lib.hid (HK.out.next hb); clear HK x0 x1 x2 x3 x4; have HK := HK2; clear HK2; have x0 := HK.out.box.c0; have x1 := HK.out.box.c1; have x2 := HK.out.box.c2; have x3 := HK.out.box.c3; have x4 := HK.out.box.c4; clear hb; have hrx := HX1.out; rw [hrx] at x1; clear hrx)
      have HK0 : Hid (Kf7 w A (.slice p A.z.length cap) (.slice none 0 0) [] w1) := ⟨HK.out, ins_nil _ _⟩
      clear HK HC x0 x1 x2 x3 x4
      go_loopg [5, 7, 19] 1 (fun gk s x q wr => (gk = 1 ∧ q = .int .i64 0 ∧ ∃ U : Value, s = U ∧ Kf7 w A (.slice p A.z.length cap) U [] wr) ∨ (gk = 0 ∧ q = .int .i64 1 ∧ ∃ U : Value, s = U ∧ Kf7 w A (.slice p A.z.length cap) U [A.a] wr))
      case atStart => exact (Or.inl ⟨rfl, rfl, _, rfl, HK0.out⟩)
      case round =>
        clear HK0
        rcases hrel with ⟨rfl, rfl, U, rfl, hk⟩ | ⟨rfl, rfl, U, rfl, hk⟩
        · have HV := Lib.hid hk
          clear hk
          have x1 := HV.out.m.box.c1
          have x2 := HV.out.m.box.c2
          rw [HX1.out] at x1
          have hsz : w.heap.size + 2 ≤ wr.heap.size := HV.out.m.sz
          go_wp2_with (at_builtin; refine wpList_app1 (by simp [Region.wanted]) _ _ rfl (w.heap.size + 2) _ [] rfl HV.out.own A.a rfl (by simp) hsz ?_; intro u2 w2 hu2 hb2; have HV2 : Hid (Kf7 w A (.slice p A.z.length cap) u2 [A.a] w2) := HV.out.step HW3.out hu2 hb2; clear hu2 hb2)
          go_roundg 0
          case measure => omega
          case rel => exact (Or.inr ⟨rfl, by go_num, _, rfl, HV2.out⟩)
        · have HV := Lib.hid hk
          clear hk
          have HRd := Lib.hid (ins_new HV.out.own).rd
          have HNl := Lib.hid (ins_nilC HV.out.own)
          have HK := Lib.hid HV.out.m
          clear HV
          go_wp2_with (go_at_call 28; (with_reducible refine (HIn.out _ _ HRd.out).mono ?_); rintro e w3 ⟨u, rfl, hu, hb⟩; obtain ⟨q, qc, hq, _, _⟩ := hu.form; have hq2 : u = .slice q 1 qc := hq; subst hq2; clear hq; have HU : Hid (RdN wr.heap.size w3 (.slice q 1 qc) [A.a]) := hu; have hlt := HK.out.sz; have HK2 := Lib.hid (HK.out.next hb); clear hu hb HK; have HK := HK2; clear HK2; have y0 := HK.out.res.c0; have y1 := HK.out.res.c1; have y2 := HK.out.res.c2; have y3 := HK.out.res.c3; have y4 := HK.out.res.c4; have f0 := HK.out.res.fr 0; have f1 := HK.out.res.fr 1; have f2 := HK.out.res.fr 2; have f3 := HK.out.res.fr 3; have f4 := HK.out.res.fr 4; have HS := Lib.hid (HK.out.res.set 1 1 1 0 (.slice q 1 qc)); have z0 := HS.out.c0; have z1 := HS.out.c1; have z2 := HS.out.c2; have z3 := HS.out.c3; have z4 := HS.out.c4)
          refine bodyPost_ret (v := .tuple #[A5 1 1 1 0 (.slice q 1 qc), .int .i64 0]) (by simp [results, Tryd.results18, go_sem, z0, z1, z2, z3, z4]) rfl ?_
          exact ⟨_, rfl, (HU.out.st5 (by omega) _ _ _ _ _).mono (by omega), st5_below _ _ _ _ _ (by omega) HK.out.bel⟩
    · rw [show shZ A = [A.a, A.b] by unfold shZ; rw [if_neg (by omega), if_neg (by omega)]]
      rw [hr] at x1
      have HX1 : Hid (A.r = 2) := hr
      clear hr
      have HIn : Hid (∀ W u, RdI W.heap.size W u [A.a, A.b] → Calls Tryd.prog 28 #[u] W (RetE ⟨1, 1, 2, 0, [A.a, A.b]⟩ 0 W)) := fun W u h => ints_any [A.a, A.b] u W h
      go_enter Tryd.func18, Tryd.ntmps18
      go_wp2_with (go_at_call 33; (with_reducible refine (HC.out _ HK.out.lay HK.out.rdn).mono ?_); rintro e w1 ⟨rfl, hb⟩; have HK2 := Lib.hid (HK.out.next hb); clear HK x0 x1 x2 x3 x4; have HK := HK2; clear HK2; have x0 := HK.out.box.c0; have x1 := HK.out.box.c1; have x2 := HK.out.box.c2; have x3 := HK.out.box.c3; have x4 := HK.out.box.c4; clear hb; have hrx := HX1.out; rw [hrx] at x1; clear hrx)
      have HK0 : Hid (Kf7 w A (.slice p A.z.length cap) (.slice none 0 0) [] w1) := ⟨HK.out, ins_nil _ _⟩
      clear HK HC x0 x1 x2 x3 x4
      go_loopg [5, 7, 19] 2 (fun gk s x q wr => (gk = 2 ∧ q = .int .i64 0 ∧ ∃ U : Value, s = U ∧ Kf7 w A (.slice p A.z.length cap) U [] wr) ∨ (gk = 1 ∧ q = .int .i64 1 ∧ ∃ U : Value, s = U ∧ Kf7 w A (.slice p A.z.length cap) U [A.a] wr) ∨ (gk = 0 ∧ q = .int .i64 2 ∧ ∃ U : Value, s = U ∧ Kf7 w A (.slice p A.z.length cap) U [A.a, A.b] wr))
      case atStart => exact (Or.inl ⟨rfl, rfl, _, rfl, HK0.out⟩)
      case round =>
        clear HK0
        rcases hrel with ⟨rfl, rfl, U, rfl, hk⟩ | ⟨rfl, rfl, U, rfl, hk⟩ | ⟨rfl, rfl, U, rfl, hk⟩
        · have HV := Lib.hid hk
          clear hk
          have x1 := HV.out.m.box.c1
          have x2 := HV.out.m.box.c2
          rw [HX1.out] at x1
          have hsz : w.heap.size + 2 ≤ wr.heap.size := HV.out.m.sz
          go_wp2_with (at_builtin; refine wpList_app1 (by simp [Region.wanted]) _ _ rfl (w.heap.size + 2) _ [] rfl HV.out.own A.a rfl (by simp) hsz ?_; intro u2 w2 hu2 hb2; have HV2 : Hid (Kf7 w A (.slice p A.z.length cap) u2 [A.a] w2) := HV.out.step HW3.out hu2 hb2; clear hu2 hb2)
          go_roundg 1
          case measure => omega
          case rel => exact (Or.inr (Or.inl ⟨rfl, by go_num, _, rfl, HV2.out⟩))
        · have HV := Lib.hid hk
          clear hk
          have x1 := HV.out.m.box.c1
          have x2 := HV.out.m.box.c3
          rw [HX1.out] at x1
          have hsz : w.heap.size + 2 ≤ wr.heap.size := HV.out.m.sz
          go_wp2_with (at_builtin; refine wpList_app1 (by simp [Region.wanted]) _ _ rfl (w.heap.size + 2) _ [A.a] rfl HV.out.own A.b rfl (by simp) hsz ?_; intro u2 w2 hu2 hb2; have HV2 : Hid (Kf7 w A (.slice p A.z.length cap) u2 [A.a, A.b] w2) := HV.out.step HW3.out hu2 hb2; clear hu2 hb2)
          go_roundg 0
          case measure => omega
          case rel => exact (Or.inr (Or.inr ⟨rfl, by go_num, _, rfl, HV2.out⟩))
        · have HV := Lib.hid hk
          clear hk
          have HRd := Lib.hid (ins_new HV.out.own).rd
          have HNl := Lib.hid (ins_nilC HV.out.own)
          have HK := Lib.hid HV.out.m
          clear HV
          go_wp2_with (go_at_call 28; (with_reducible refine (HIn.out _ _ HRd.out).mono ?_); rintro e w3 ⟨u, rfl, hu, hb⟩; obtain ⟨q, qc, hq, _, _⟩ := hu.form; have hq2 : u = .slice q 2 qc := hq; subst hq2; clear hq; have HU : Hid (RdN wr.heap.size w3 (.slice q 2 qc) [A.a, A.b]) := hu; have hlt := HK.out.sz; have HK2 := Lib.hid (HK.out.next hb); clear hu hb HK; have HK := HK2; clear HK2; have y0 := HK.out.res.c0; have y1 := HK.out.res.c1; have y2 := HK.out.res.c2; have y3 := HK.out.res.c3; have y4 := HK.out.res.c4; have f0 := HK.out.res.fr 0; have f1 := HK.out.res.fr 1; have f2 := HK.out.res.fr 2; have f3 := HK.out.res.fr 3; have f4 := HK.out.res.fr 4; have HS := Lib.hid (HK.out.res.set 1 1 2 0 (.slice q 2 qc)); have z0 := HS.out.c0; have z1 := HS.out.c1; have z2 := HS.out.c2; have z3 := HS.out.c3; have z4 := HS.out.c4)
          refine bodyPost_ret (v := .tuple #[A5 1 1 2 0 (.slice q 2 qc), .int .i64 0]) (by simp [results, Tryd.results18, go_sem, z0, z1, z2, z3, z4]) rfl ?_
          exact ⟨_, rfl, (HU.out.st5 (by omega) _ _ _ _ _).mono (by omega), st5_below _ _ _ _ _ (by omega) HK.out.bel⟩
  · rw [orNo_no h1]
    generalize ck A = E at h1 HC ⊢
    have k1 : (E != 0) = true := by simpa using h1
    have k2 : (E == 0) = false := by simpa using h1
    clear h1
    go_enter Tryd.func18, Tryd.ntmps18
    go_wp2_with (go_at_call 33; (with_reducible refine (HC.out _ HK.out.lay HK.out.rdn).mono ?_); rintro e w1 ⟨rfl, hb⟩; have HK2 := Lib.hid (HK.out.next hb); clear HK x0 x1 x2 x3 x4; have HK := HK2; clear HK2; have x0 := HK.out.box.c0; have x1 := HK.out.box.c1; have x2 := HK.out.box.c2; have x3 := HK.out.box.c3; have x4 := HK.out.box.c4; clear hb; have y0 := HK.out.res.c0; have y1 := HK.out.res.c1; have y2 := HK.out.res.c2; have y3 := HK.out.res.c3; have y4 := HK.out.res.c4; have f0 := HK.out.res.fr 0; have f1 := HK.out.res.fr 1; have f2 := HK.out.res.fr 2; have f3 := HK.out.res.fr 3; have f4 := HK.out.res.fr 4; have HS := Lib.hid (HK.out.res.set 0 0 0 0 (.slice none 0 0)); have z0 := HS.out.c0; have z1 := HS.out.c1; have z2 := HS.out.c2; have z3 := HS.out.c3; have z4 := HS.out.c4)
    exact bodyPost_ret (v := .tuple #[A5 0 0 0 0 (.slice none 0 0), .int .i64 E]) (by simp [results, Tryd.results18, go_sem, z0, z1, z2, z3, z4]) rfl (retE_no _ (st5_below _ _ _ _ _ (by omega) HK.out.bel))
end Go.Proofs.YtpbfbejckhbijaaDoor
namespace Go.Proofs.YtpbfbejckhbijaaDoor
open Go.RowKit

theorem lk_bad {A B : Ar} (h : lkT A B = 0) {j : Nat} (hj : j < B.z.length) (hx : inS A.z.length (B.z.getD j 0) = false) : lkE A B = 14 ∧ lkV A B = Ar.no := by
  have e : lkE A B = 14 := by
    unfold lkE
    rw [if_pos h, if_neg]
    intro ha
    rw [all_get ha hj] at hx
    cases hx
  exact ⟨e, orNo_no (by rw [e]; decide)⟩
theorem lk_all {A B : Ar} (h : lkT A B = 0) (ha : B.z.all (inS A.z.length) = true) : lkE A B = 0 ∧ lkV A B = ⟨A.k, B.r, B.a, B.b, lkZ A B⟩ := by
  have e : lkE A B = 0 := by unfold lkE; rw [if_pos h, if_pos ha]
  exact ⟨e, orNo_yes e⟩
theorem all_snocI {l : List Int} {p : Int → Bool} {j : Nat} (hj : j < l.length) (h : (l.take j).all p = true) (hx : p (l.getD j 0) = true) : (l.take (j + 1)).all p = true := by
  rw [← takeI_snoc hj, List.all_append, h]
  simpa using hx
theorem lk_snoc {A B : Ar} {j t : Nat} (hj : j < B.z.length) (ht : B.z.getD j 0 = (t : Int)) : (lkZ A B).take j ++ [A.z.getD t 0] = (lkZ A B).take (j + 1) := by
  have hl : j < (lkZ A B).length := by unfold lkZ; rw [List.length_map]; exact hj
  rw [← takeI_snoc hl]
  unfold lkZ
  rw [List.getD_eq_getElem?_getD (l := B.z.map _), List.getElem?_map, List.getElem?_eq_getElem hj]
  rw [List.getD_eq_getElem?_getD, List.getElem?_eq_getElem hj] at ht
  have ht2 : B.z[j] = (t : Int) := ht
  simp [ht2]
set_option maxRecDepth 100000 in
theorem ibs2 (k r a b : Int) (q : Option Addr) (n c : Nat) (k' r' a' b' : Int) (q' : Option Addr) (n' c' : Nat) (W : World) : (Instr.buildSlice 51 2 #[(0, A5 k r a b (.slice q n c)), (1, A5 k' r' a' b' (.slice q' n' c'))]).run Tryd.prog W =
    .ok (.slice (some ⟨W.heap.size, 0, none⟩) 2 2) (W.alloc (.cells #[.int .i64 k, .int .i64 r, .int .i64 a, .int .i64 b, .slice q n c, .int .i64 k', .int .i64 r', .int .i64 a', .int .i64 b', .slice q' n' c'] 25)) := by kernel_rfl
set_option maxRecDepth 100000 in
set_option maxHeartbeats 16000000 in
theorem iat_any (A B : Ar) (v u : Value) (w : World) (hw : Ru.Lay w) (hv : RdI w.heap.size w v A.z) (hu : RdI w.heap.size w u B.z) (hl : A.z.length ≤ 100000) (hl' : B.z.length ≤ 100000) :
    Calls Tryd.prog 13 #[A5 A.k A.r A.a A.b v, A5 B.k B.r B.a B.b u] w (RetE (lkV A B) (lkE A B) w) := by
  have HFg : ∀ rk : Bool, (ck A = 0 → ck B = 0 → (rk = true ↔ 1 ≤ A.r ∧ A.r ≤ 1 ∧ 0 ≤ B.r ∧ B.r ≤ 1)) → Hid (∀ W g, W.heap.size = g → Ru.Lay W → RdI W.heap.size W v A.z → RdI W.heap.size W u B.z → Calls Tryd.prog 20 #[.bool (B.k == 1), .bool rk, .slice (some ⟨g, 0, none⟩) 2 2] (W.alloc (.cells #[.int .i64 A.k, .int .i64 A.r, .int .i64 A.a, .int .i64 A.b, v, .int .i64 B.k, .int .i64 B.r, .int .i64 B.a, .int .i64 B.b, u] 25)) fun e w' => e = .returned (.int .i64 (lkT A B)) ∧ Below W.heap.size W w') := fun rk hrk W g hg h1 h2 h3 => by
    have h := ifault2_any (B.k == 1) rk A B v u W g hg h1 h2 h3 (by omega) (by omega)
    rwa [fk_two A B (B.k == 1) rk A.k 1 1 1 0 1 (by simp) hrk] at h
  have HK := Lib.hid (MK2.new (A := A) (B := B) hw hv hu)
  have HW3 := Lib.hid hw.size
  have x0 := HK.out.c.boxA.c0; have x1 := HK.out.c.boxA.c1; have x2 := HK.out.c.boxA.c2; have x3 := HK.out.c.boxA.c3; have x4 := HK.out.c.boxA.c4; have y0 := HK.out.c.boxB.c0; have y1 := HK.out.c.boxB.c1; have y2 := HK.out.c.boxB.c2; have y3 := HK.out.c.boxB.c3; have y4 := HK.out.c.boxB.c4
  obtain ⟨p, cap, rfl, _, _, _⟩ := hv
  obtain ⟨q, cap', rfl, _, _, _⟩ := hu
  clear hw
  have HBs := fun W => ibs2 A.k A.r A.a A.b p A.z.length cap B.k B.r B.a B.b q B.z.length cap' W
  by_cases hA1 : A.r = 1
  rotate_left
  · have HFa := HFg false fun _ _ => ⟨fun h => by (cases h), fun h => absurd (show A.r = 1 by omega) hA1⟩
    clear HFg
    have h1 : lkT A B ≠ 0 := fun h => by obtain ⟨_, _, _, h3, h4, _⟩ := twoE_ok h; omega
    have k0 : (A.r == 1) = false := by simpa using hA1
    clear hA1
    generalize hT : lkT A B = E at h1 HFa
    have hE : lkE A B = E := (if_neg (by rw [hT]; exact h1)).trans hT
    rw [show lkV A B = Ar.no from orNo_no (by rw [hE]; exact h1), hE]
    have k1 : (E != 0) = true := by simpa using h1
    clear h1 hE hT
    go_enter Tryd.func13, Tryd.ntmps13
    go_wp2_with (go_at_call 20; (with_reducible refine (HFa.out _ _ (by first | rfl | simp) HK.out.c.lay HK.out.c.rdnA HK.out.c.rdnB).mono ?_); rintro e w1 ⟨rfl, hb⟩; have HK2 := Lib.hid (HK.out.next hb); clear HK x0 x1 x2 x3 x4 y0 y1 y2 y3 y4; have HK := HK2; clear HK2; have x0 := HK.out.c.boxA.c0; have x1 := HK.out.c.boxA.c1; have x2 := HK.out.c.boxA.c2; have x3 := HK.out.c.boxA.c3; have x4 := HK.out.c.boxA.c4; have y0 := HK.out.c.boxB.c0; have y1 := HK.out.c.boxB.c1; have y2 := HK.out.c.boxB.c2; have y3 := HK.out.c.boxB.c3; have y4 := HK.out.c.boxB.c4; clear hb; have y0 := HK.out.res.c0; have y1 := HK.out.res.c1; have y2 := HK.out.res.c2; have y3 := HK.out.res.c3; have y4 := HK.out.res.c4; have f0 := HK.out.res.fr 0; have f1 := HK.out.res.fr 1; have f2 := HK.out.res.fr 2; have f3 := HK.out.res.fr 3; have f4 := HK.out.res.fr 4; have HS := Lib.hid (HK.out.res.set 0 0 0 0 (.slice none 0 0)); have z0 := HS.out.c0; have z1 := HS.out.c1; have z2 := HS.out.c2; have z3 := HS.out.c3; have z4 := HS.out.c4)
    exact bodyPost_ret (v := .tuple #[A5 0 0 0 0 (.slice none 0 0), .int .i64 E]) (by simp [results, Tryd.results13, go_sem, z0, z1, z2, z3, z4]) rfl (retE_no _ (st5_below _ _ _ _ _ (by omega) HK.out.c.bel))
  have HFa := HFg (decide (B.r ≤ 1)) fun _ hb => ⟨fun h => by (have h5 := of_decide_eq_true h; have := (ck_good hb).r3; omega), fun h => decide_eq_true h.2.2.2⟩
  have k0 : (A.r == 1) = true := by simpa using hA1
  clear hA1 HFg
  by_cases h1 : lkT A B ≠ 0
  · generalize hT : lkT A B = E at h1 HFa
    have hE : lkE A B = E := (if_neg (by rw [hT]; exact h1)).trans hT
    rw [show lkV A B = Ar.no from orNo_no (by rw [hE]; exact h1), hE]
    have k1 : (E != 0) = true := by simpa using h1
    clear h1 hE hT
    go_enter Tryd.func13, Tryd.ntmps13
    go_wp2_with (go_at_call 20; (with_reducible refine (HFa.out _ _ (by first | rfl | simp) HK.out.c.lay HK.out.c.rdnA HK.out.c.rdnB).mono ?_); rintro e w1 ⟨rfl, hb⟩; have HK2 := Lib.hid (HK.out.next hb); clear HK x0 x1 x2 x3 x4 y0 y1 y2 y3 y4; have HK := HK2; clear HK2; have x0 := HK.out.c.boxA.c0; have x1 := HK.out.c.boxA.c1; have x2 := HK.out.c.boxA.c2; have x3 := HK.out.c.boxA.c3; have x4 := HK.out.c.boxA.c4; have y0 := HK.out.c.boxB.c0; have y1 := HK.out.c.boxB.c1; have y2 := HK.out.c.boxB.c2; have y3 := HK.out.c.boxB.c3; have y4 := HK.out.c.boxB.c4; clear hb; have y0 := HK.out.res.c0; have y1 := HK.out.res.c1; have y2 := HK.out.res.c2; have y3 := HK.out.res.c3; have y4 := HK.out.res.c4; have f0 := HK.out.res.fr 0; have f1 := HK.out.res.fr 1; have f2 := HK.out.res.fr 2; have f3 := HK.out.res.fr 3; have f4 := HK.out.res.fr 4; have HS := Lib.hid (HK.out.res.set 0 0 0 0 (.slice none 0 0)); have z0 := HS.out.c0; have z1 := HS.out.c1; have z2 := HS.out.c2; have z3 := HS.out.c3; have z4 := HS.out.c4)
    exact bodyPost_ret (v := .tuple #[A5 0 0 0 0 (.slice none 0 0), .int .i64 E]) (by simp [results, Tryd.results13, go_sem, z0, z1, z2, z3, z4]) rfl (retE_no _ (st5_below _ _ _ _ _ (by omega) HK.out.c.bel))
  have h0 : lkT A B = 0 := by omega
  rw [h0] at HFa
  have HBad := Lib.hid (fun j hj hx => lk_bad (A := A) (B := B) (j := j) h0 hj hx)
  have HAll := Lib.hid (fun h => lk_all (A := A) (B := B) h0 h)
  have HMk : Hid (lkE A B = 0 → ∀ W u, Ru.Lay W → RdI W.heap.size W u (lkZ A B) → Calls Tryd.prog 21 #[.int .i64 A.k, .int .i64 B.r, P2 B.a B.b, u] W (RetE ⟨A.k, B.r, B.a, B.b, lkZ A B⟩ 0 W)) := fun he W u h2 h3 => by
    have h4 := make_any A.k B.r B.a B.b (lkZ A B) u W h2 h3 (by unfold lkZ; rw [List.length_map]; omega)
    rwa [lk_ck he, mk_yes (lk_ck he)] at h4
  have HSn := Lib.hid (fun j t hj ht => lk_snoc (A := A) (B := B) (j := j) (t := t) hj ht)
  have HZl : Hid ((lkZ A B).length = B.z.length) := by unfold Hid lkZ; rw [List.length_map]
  have hl4 := (ck_good (twoE_ok h0).1).len4
  have hl5 := (ck_good (twoE_ok h0).2.1).len4
  clear h0 h1
  generalize lkZ A B = Z at HMk HSn HZl HAll
  generalize lkV A B = VV at HBad HAll ⊢
  generalize lkE A B = EE at HBad HAll HMk ⊢
  go_enter Tryd.func13, Tryd.ntmps13
  go_wp2_with (go_at_call 20; (with_reducible refine (HFa.out _ _ (by first | rfl | simp) HK.out.c.lay HK.out.c.rdnA HK.out.c.rdnB).mono ?_); rintro e w1 ⟨rfl, hb⟩; have HK2 := Lib.hid (HK.out.next hb); clear HK x0 x1 x2 x3 x4 y0 y1 y2 y3 y4; have HK := HK2; clear HK2; have x0 := HK.out.c.boxA.c0; have x1 := HK.out.c.boxA.c1; have x2 := HK.out.c.boxA.c2; have x3 := HK.out.c.boxA.c3; have x4 := HK.out.c.boxA.c4; have y0 := HK.out.c.boxB.c0; have y1 := HK.out.c.boxB.c1; have y2 := HK.out.c.boxB.c2; have y3 := HK.out.c.boxB.c3; have y4 := HK.out.c.boxB.c4; clear hb)
  have HK0 : Hid (K27 w A (.slice p A.z.length cap) B (.slice q B.z.length cap') (.slice none 0 0) [] w1) := ⟨HK.out, ins_nil _ _⟩
  clear HK HFa HBs k0 x0 x1 x2 x3 x4 y0 y1 y2 y3 y4
  go_loopg [7, 9, 32] B.z.length (fun gk s x q9 wr => ∃ (j : Nat) (U : Value), j + gk = B.z.length ∧ s = U ∧ q9 = .int .i64 j ∧ (B.z.take j).all (inS A.z.length) = true ∧ K27 w A (.slice p A.z.length cap) B (.slice q B.z.length cap') U (Z.take j) wr)
  case atStart => exact ⟨0, _, by omega, rfl, rfl, by simp, HK0.out⟩
  case round =>
    obtain ⟨j, s0, hjg, rfl, rfl, hal, hk⟩ := hrel
    have HV := Lib.hid hk
    have HAl := Lib.hid hal
    clear hk HK0 hal
    cases gk with
    | zero =>
      have hjz : ¬ ((j : Int) < (B.z.length : Int)) := by omega
      obtain ⟨he, hve⟩ := HAll.out (by have h := HAl.out; rwa [List.take_of_length_le (by omega)] at h)
      have HVe := Lib.hid hve
      have HEe := Lib.hid he
      have HMk2 := Lib.hid (HMk.out he)
      have HO : Hid (RdI wr.heap.size wr u7 Z) := by
        have h := (ins_new HV.out.own).rd
        rwa [List.take_of_length_le (by rw [HZl.out]; omega)] at h
      have HK := Lib.hid HV.out.m
      clear HV HAl HAll HBad HSn he hve HMk
      have x0 := HK.out.c.boxA.c0; have x1 := HK.out.c.boxA.c1; have x2 := HK.out.c.boxA.c2; have x3 := HK.out.c.boxA.c3; have x4 := HK.out.c.boxA.c4; have y0 := HK.out.c.boxB.c0; have y1 := HK.out.c.boxB.c1; have y2 := HK.out.c.boxB.c2; have y3 := HK.out.c.boxB.c3; have y4 := HK.out.c.boxB.c4
      go_wp2_with (go_at_call 21; (with_reducible refine (HMk2.out _ _ HK.out.c.lay HO.out).mono ?_); rintro e w3 ⟨uu, rfl, hu, hb⟩; obtain ⟨qq, qc, hq, _, _⟩ := hu.form; have hq2 : uu = .slice qq Z.length qc := hq; subst hq2; clear hq; have HU : Hid (RdN wr.heap.size w3 (.slice qq Z.length qc) Z) := hu; have hlt := HK.out.sz; have HK2 := Lib.hid (HK.out.next hb); clear hu hb HK; have HK := HK2; clear HK2; have y0 := HK.out.res.c0; have y1 := HK.out.res.c1; have y2 := HK.out.res.c2; have y3 := HK.out.res.c3; have y4 := HK.out.res.c4; have f0 := HK.out.res.fr 0; have f1 := HK.out.res.fr 1; have f2 := HK.out.res.fr 2; have f3 := HK.out.res.fr 3; have f4 := HK.out.res.fr 4; have HS := Lib.hid (HK.out.res.set A.k B.r B.a B.b (.slice qq Z.length qc)); have z0 := HS.out.c0; have z1 := HS.out.c1; have z2 := HS.out.c2; have z3 := HS.out.c3; have z4 := HS.out.c4)
      refine bodyPost_ret (v := .tuple #[A5 A.k B.r B.a B.b (.slice qq Z.length qc), .int .i64 0]) (by simp [results, Tryd.results13, go_sem, z0, z1, z2, z3, z4]) rfl ?_
      rw [HVe.out, HEe.out]
      exact ⟨_, rfl, (HU.out.st5 (by omega) _ _ _ _ _).mono (by omega), st5_below _ _ _ _ _ (by omega) HK.out.c.bel⟩
    | succ g2 =>
      have hjz : (j : Int) < (B.z.length : Int) := by omega
      have hj : j < B.z.length := by omega
      have hwi : IntKind.i64.wrap ((j : Int) + 1) = (j : Int) + 1 := by rw [IntKind.wrap_i64]; omega
      obtain ⟨bB, oB, hpB, _, hcB⟩ := HV.out.m.c.rdnB.cells (by intro e; rw [e] at hj; simp at hj)
      subst hpB
      have hyc := hcB j hj
      have hgx : B.z.getD j 0 = B.z[j] := by rw [List.getD_eq_getElem?_getD, List.getElem?_eq_getElem hj]; rfl
      have HGx := Lib.hid hgx
      clear hcB hgx
      generalize B.z[j] = x at hyc HGx
      have x4 := HV.out.m.c.boxA.c4
      by_cases hx : inS A.z.length x = true
      · unfold inS at hx
        rw [Bool.and_eq_true, decide_eq_true_iff, decide_eq_true_iff] at hx
        obtain ⟨t, ht⟩ : ∃ t : Nat, x = (t : Int) := ⟨x.toNat, by omega⟩
        subst ht
        have htl : t < A.z.length := by omega
        obtain ⟨bA, oA, hpA, _, hcA⟩ := HV.out.m.c.rdnA.cells (by intro e; rw [e] at htl; simp at htl)
        subst hpA
        have hxc := hcA t htl
        have hgz : A.z.getD t 0 = A.z[t] := by rw [List.getD_eq_getElem?_getD, List.getElem?_eq_getElem htl]; rfl
        have HSq := Lib.hid (HSn.out j t hj HGx.out)
        have HAn : Hid ((B.z.take (j + 1)).all (inS A.z.length) = true) := all_snocI hj HAl.out (by rw [HGx.out]; unfold inS; rw [Bool.and_eq_true, decide_eq_true_iff, decide_eq_true_iff]; omega)
        rw [hgz] at HSq
        clear hcA hgz HBad HAl HSn
        generalize A.z[t] = c at hxc HSq
        have k1 : decide ((t : Int) < 0) = false := decide_eq_false (by omega)
        have k2 : decide ((A.z.length : Int) ≤ (t : Int)) = false := decide_eq_false (by omega)
        have k3 : (t : Int) < (A.z.length : Int) := by omega
        have hlen : (Z.take j).length + 1 ≤ 1000000 := by rw [List.length_take]; omega
        have hsz : w.heap.size + 3 ≤ wr.heap.size := HV.out.m.sz
        clear hx
        go_wp2_with (at_builtin; refine wpList_app1 (by simp [Region.wanted]) _ _ rfl (w.heap.size + 3) _ (Z.take j) rfl HV.out.own c rfl hlen hsz ?_; intro u2 w2 hu2 hb2; have HV2 := Lib.hid (HV.out.step HW3.out hu2 hb2); clear hu2 hb2)
        rw [HSq.out] at HV2
        go_roundg g2
        case measure => omega
        case rel => exact ⟨j + 1, _, by omega, rfl, by go_num, HAn.out, HV2.out⟩
      · obtain ⟨he, hve⟩ := HBad.out j hj (by rw [HGx.out]; simpa using hx)
        have HVe := Lib.hid hve
        have HEe := Lib.hid he
        have HK := Lib.hid HV.out.m
        clear HV HAl HAll HBad HSn HMk he hve
        unfold inS at hx
        rw [Bool.and_eq_true, decide_eq_true_iff, decide_eq_true_iff] at hx
        have y0 := HK.out.res.c0; have y1 := HK.out.res.c1; have y2 := HK.out.res.c2; have y3 := HK.out.res.c3; have y4 := HK.out.res.c4; have f0 := HK.out.res.fr 0; have f1 := HK.out.res.fr 1; have f2 := HK.out.res.fr 2; have f3 := HK.out.res.fr 3; have f4 := HK.out.res.fr 4; have HS := Lib.hid (HK.out.res.set 0 0 0 0 (.slice none 0 0)); have z0 := HS.out.c0; have z1 := HS.out.c1; have z2 := HS.out.c2; have z3 := HS.out.c3; have z4 := HS.out.c4
        by_cases hx0 : x < 0
        · have k1 : decide (x < 0) = true := decide_eq_true hx0
          clear hx
          go_wp2_with fail
          refine bodyPost_ret (v := .tuple #[A5 0 0 0 0 (.slice none 0 0), .int .i64 14]) (by simp [results, Tryd.results13, go_sem, z0, z1, z2, z3, z4]) rfl ?_
          rw [HVe.out, HEe.out]
          exact retE_no _ (st5_below _ _ _ _ _ (by omega) HK.out.c.bel)
        · have k1 : decide (x < 0) = false := decide_eq_false hx0
          have k2 : decide ((A.z.length : Int) ≤ x) = true := decide_eq_true (by omega)
          clear hx hx0
          go_wp2_with fail
          refine bodyPost_ret (v := .tuple #[A5 0 0 0 0 (.slice none 0 0), .int .i64 14]) (by simp [results, Tryd.results13, go_sem, z0, z1, z2, z3, z4]) rfl ?_
          rw [HVe.out, HEe.out]
          exact retE_no _ (st5_below _ _ _ _ _ (by omega) HK.out.c.bel)
set_option maxRecDepth 100000 in
set_option maxHeartbeats 16000000 in
theorem ipick_any (A B : Ar) (v u : Value) (w : World) (hw : Ru.Lay w) (hv : RdI w.heap.size w v A.z) (hu : RdI w.heap.size w u B.z) (hl : A.z.length ≤ 100000) (hl' : B.z.length ≤ 100000) :
    Calls Tryd.prog 7 #[A5 A.k A.r A.a A.b v, A5 B.k B.r B.a B.b u] w (RetE (pkV A B) (pkE A B) w) := by
  have HFg : ∀ rk : Bool, (ck A = 0 → ck B = 0 → (rk = true ↔ 1 ≤ A.r ∧ A.r ≤ 1 ∧ 1 ≤ B.r ∧ B.r ≤ 1)) → Hid (∀ W g, W.heap.size = g → Ru.Lay W → RdI W.heap.size W v A.z → RdI W.heap.size W u B.z → Calls Tryd.prog 20 #[.bool (A.k == 1), .bool rk, .slice (some ⟨g, 0, none⟩) 2 2] (W.alloc (.cells #[.int .i64 A.k, .int .i64 A.r, .int .i64 A.a, .int .i64 A.b, v, .int .i64 B.k, .int .i64 B.r, .int .i64 B.a, .int .i64 B.b, u] 25)) fun e w' => e = .returned (.int .i64 (pkT A B)) ∧ Below W.heap.size W w') := fun rk hrk W g hg h1 h2 h3 => by
    have h := ifault2_any (A.k == 1) rk A B v u W g hg h1 h2 h3 (by omega) (by omega)
    rwa [fk_two A B (A.k == 1) rk 1 B.k 1 1 1 1 (by simp) hrk] at h
  have HK := Lib.hid (MK2.new (A := A) (B := B) hw hv hu)
  have HW3 := Lib.hid hw.size
  have x0 := HK.out.c.boxA.c0; have x1 := HK.out.c.boxA.c1; have x2 := HK.out.c.boxA.c2; have x3 := HK.out.c.boxA.c3; have x4 := HK.out.c.boxA.c4; have y0 := HK.out.c.boxB.c0; have y1 := HK.out.c.boxB.c1; have y2 := HK.out.c.boxB.c2; have y3 := HK.out.c.boxB.c3; have y4 := HK.out.c.boxB.c4
  obtain ⟨p, cap, rfl, _, _, _⟩ := hv
  obtain ⟨q, cap', rfl, _, _, _⟩ := hu
  clear hw
  have HBs := fun W => ibs2 A.k A.r A.a A.b p A.z.length cap B.k B.r B.a B.b q B.z.length cap' W
  by_cases hA1 : A.r = 1
  rotate_left
  · have HFa := HFg false fun _ _ => ⟨fun h => by (cases h), fun h => absurd (show A.r = 1 by omega) hA1⟩
    clear HFg
    have h1 : pkT A B ≠ 0 := fun h => by obtain ⟨_, _, _, h3, h4, _⟩ := twoE_ok h; omega
    have k0 : (A.r == 1) = false := by simpa using hA1
    clear hA1
    generalize hT : pkT A B = E at h1 HFa
    have hE : pkE A B = E := (if_neg (by rw [hT]; exact h1)).trans hT
    rw [show pkV A B = Ar.no from orNo_no (by rw [hE]; exact h1), hE]
    have k1 : (E != 0) = true := by simpa using h1
    clear h1 hE hT
    go_enter Tryd.func7, Tryd.ntmps7
    go_wp2_with (go_at_call 20; (with_reducible refine (HFa.out _ _ (by first | rfl | simp) HK.out.c.lay HK.out.c.rdnA HK.out.c.rdnB).mono ?_); rintro e w1 ⟨rfl, hb⟩; have HK2 := Lib.hid (HK.out.next hb); clear HK x0 x1 x2 x3 x4 y0 y1 y2 y3 y4; have HK := HK2; clear HK2; have x0 := HK.out.c.boxA.c0; have x1 := HK.out.c.boxA.c1; have x2 := HK.out.c.boxA.c2; have x3 := HK.out.c.boxA.c3; have x4 := HK.out.c.boxA.c4; have y0 := HK.out.c.boxB.c0; have y1 := HK.out.c.boxB.c1; have y2 := HK.out.c.boxB.c2; have y3 := HK.out.c.boxB.c3; have y4 := HK.out.c.boxB.c4; clear hb; have y0 := HK.out.res.c0; have y1 := HK.out.res.c1; have y2 := HK.out.res.c2; have y3 := HK.out.res.c3; have y4 := HK.out.res.c4; have f0 := HK.out.res.fr 0; have f1 := HK.out.res.fr 1; have f2 := HK.out.res.fr 2; have f3 := HK.out.res.fr 3; have f4 := HK.out.res.fr 4; have HS := Lib.hid (HK.out.res.set 0 0 0 0 (.slice none 0 0)); have z0 := HS.out.c0; have z1 := HS.out.c1; have z2 := HS.out.c2; have z3 := HS.out.c3; have z4 := HS.out.c4)
    exact bodyPost_ret (v := .tuple #[A5 0 0 0 0 (.slice none 0 0), .int .i64 E]) (by simp [results, Tryd.results7, go_sem, z0, z1, z2, z3, z4]) rfl (retE_no _ (st5_below _ _ _ _ _ (by omega) HK.out.c.bel))
  have HFa := HFg (B.r == 1) fun _ _ => ⟨fun h => by (have h5 : B.r = 1 := by simpa using h); omega, fun h => by simpa using (show B.r = 1 by omega)⟩
  have k0 : (A.r == 1) = true := by simpa using hA1
  clear hA1 HFg
  by_cases h1 : pkT A B ≠ 0
  · generalize hT : pkT A B = E at h1 HFa
    have hE : pkE A B = E := (if_neg (by rw [hT]; exact h1)).trans hT
    rw [show pkV A B = Ar.no from orNo_no (by rw [hE]; exact h1), hE]
    have k1 : (E != 0) = true := by simpa using h1
    clear h1 hE hT
    go_enter Tryd.func7, Tryd.ntmps7
    go_wp2_with (go_at_call 20; (with_reducible refine (HFa.out _ _ (by first | rfl | simp) HK.out.c.lay HK.out.c.rdnA HK.out.c.rdnB).mono ?_); rintro e w1 ⟨rfl, hb⟩; have HK2 := Lib.hid (HK.out.next hb); clear HK x0 x1 x2 x3 x4 y0 y1 y2 y3 y4; have HK := HK2; clear HK2; have x0 := HK.out.c.boxA.c0; have x1 := HK.out.c.boxA.c1; have x2 := HK.out.c.boxA.c2; have x3 := HK.out.c.boxA.c3; have x4 := HK.out.c.boxA.c4; have y0 := HK.out.c.boxB.c0; have y1 := HK.out.c.boxB.c1; have y2 := HK.out.c.boxB.c2; have y3 := HK.out.c.boxB.c3; have y4 := HK.out.c.boxB.c4; clear hb; have y0 := HK.out.res.c0; have y1 := HK.out.res.c1; have y2 := HK.out.res.c2; have y3 := HK.out.res.c3; have y4 := HK.out.res.c4; have f0 := HK.out.res.fr 0; have f1 := HK.out.res.fr 1; have f2 := HK.out.res.fr 2; have f3 := HK.out.res.fr 3; have f4 := HK.out.res.fr 4; have HS := Lib.hid (HK.out.res.set 0 0 0 0 (.slice none 0 0)); have z0 := HS.out.c0; have z1 := HS.out.c1; have z2 := HS.out.c2; have z3 := HS.out.c3; have z4 := HS.out.c4)
    exact bodyPost_ret (v := .tuple #[A5 0 0 0 0 (.slice none 0 0), .int .i64 E]) (by simp [results, Tryd.results7, go_sem, z0, z1, z2, z3, z4]) rfl (retE_no _ (st5_below _ _ _ _ _ (by omega) HK.out.c.bel))
  have h0 : pkT A B = 0 := by omega
  rw [h0] at HFa
  have hl4 := (ck_good (twoE_ok h0).1).len4
  have hl5 := (ck_good (twoE_ok h0).2.1).len4
  by_cases h2 : A.z.length = B.z.length
  rotate_left
  · have hE : pkE A B = 11 := by unfold pkE; rw [if_pos h0, if_neg h2]
    rw [show pkV A B = Ar.no from orNo_no (by rw [hE]; decide), hE]
    have k1 : ((A.z.length : Int) != (B.z.length : Int)) = true := by rw [bne_iff_ne]; omega
    clear h0 h1 h2 hE
    go_enter Tryd.func7, Tryd.ntmps7
    go_wp2_with (go_at_call 20; (with_reducible refine (HFa.out _ _ (by first | rfl | simp) HK.out.c.lay HK.out.c.rdnA HK.out.c.rdnB).mono ?_); rintro e w1 ⟨rfl, hb⟩; have HK2 := Lib.hid (HK.out.next hb); clear HK x0 x1 x2 x3 x4 y0 y1 y2 y3 y4; have HK := HK2; clear HK2; have x0 := HK.out.c.boxA.c0; have x1 := HK.out.c.boxA.c1; have x2 := HK.out.c.boxA.c2; have x3 := HK.out.c.boxA.c3; have x4 := HK.out.c.boxA.c4; have y0 := HK.out.c.boxB.c0; have y1 := HK.out.c.boxB.c1; have y2 := HK.out.c.boxB.c2; have y3 := HK.out.c.boxB.c3; have y4 := HK.out.c.boxB.c4; clear hb; have y0 := HK.out.res.c0; have y1 := HK.out.res.c1; have y2 := HK.out.res.c2; have y3 := HK.out.res.c3; have y4 := HK.out.res.c4; have f0 := HK.out.res.fr 0; have f1 := HK.out.res.fr 1; have f2 := HK.out.res.fr 2; have f3 := HK.out.res.fr 3; have f4 := HK.out.res.fr 4; have HS := Lib.hid (HK.out.res.set 0 0 0 0 (.slice none 0 0)); have z0 := HS.out.c0; have z1 := HS.out.c1; have z2 := HS.out.c2; have z3 := HS.out.c3; have z4 := HS.out.c4)
    exact bodyPost_ret (v := .tuple #[A5 0 0 0 0 (.slice none 0 0), .int .i64 11]) (by simp [results, Tryd.results7, go_sem, z0, z1, z2, z3, z4]) rfl (retE_no _ (st5_below _ _ _ _ _ (by omega) HK.out.c.bel))
  have hE : pkE A B = 0 := by unfold pkE; rw [if_pos h0, if_pos h2]
  rw [show pkV A B = vecA B.k (pkZ A.z B.z) from orNo_yes hE, hE]
  have k1 : ((A.z.length : Int) != (B.z.length : Int)) = false := by simp [h2]
  have HMk : Hid (∀ W u, Ru.Lay W → RdI W.heap.size W u (pkZ A.z B.z) → Calls Tryd.prog 21 #[.int .i64 B.k, .int .i64 1, P2 (pkZ A.z B.z).length 0, u] W (RetE ⟨B.k, 1, (pkZ A.z B.z).length, 0, pkZ A.z B.z⟩ 0 W)) := fun W u g2 g3 => by
    have hp := pkZ_le A.z B.z
    have h4 := make_any B.k 1 (pkZ A.z B.z).length 0 (pkZ A.z B.z) u W g2 g3 (by omega)
    have hc : ck ⟨B.k, 1, ((pkZ A.z B.z).length : Int), 0, pkZ A.z B.z⟩ = 0 := pk_ck h0
    rwa [hc, mk_yes hc] at h4
  have HSn := Lib.hid (fun j (hj : j < A.z.length) => pkZ_take (m := A.z) (v := B.z) h2 hj)
  have HPl : Hid (∀ j, (pkZ (A.z.take j) (B.z.take j)).length ≤ 1000) := fun j => by have := pkZ_le (A.z.take j) (B.z.take j); rw [List.length_take] at this; omega
  have HZe : Hid (pkZ (A.z.take A.z.length) (B.z.take A.z.length) = pkZ A.z B.z) := by unfold Hid; rw [List.take_length, List.take_of_length_le (by omega)]
  have HLb := Lib.hid h2
  clear h0 h1 h2 hE
  go_enter Tryd.func7, Tryd.ntmps7
  go_wp2_with (go_at_call 20; (with_reducible refine (HFa.out _ _ (by first | rfl | simp) HK.out.c.lay HK.out.c.rdnA HK.out.c.rdnB).mono ?_); rintro e w1 ⟨rfl, hb⟩; have HK2 := Lib.hid (HK.out.next hb); clear HK x0 x1 x2 x3 x4 y0 y1 y2 y3 y4; have HK := HK2; clear HK2; have x0 := HK.out.c.boxA.c0; have x1 := HK.out.c.boxA.c1; have x2 := HK.out.c.boxA.c2; have x3 := HK.out.c.boxA.c3; have x4 := HK.out.c.boxA.c4; have y0 := HK.out.c.boxB.c0; have y1 := HK.out.c.boxB.c1; have y2 := HK.out.c.boxB.c2; have y3 := HK.out.c.boxB.c3; have y4 := HK.out.c.boxB.c4; clear hb)
  have HK0 : Hid (K27 w A (.slice p A.z.length cap) B (.slice q B.z.length cap') (.slice none 0 0) (pkZ (A.z.take 0) (B.z.take 0)) w1) := ⟨HK.out, by simpa [pkZ] using ins_nil _ _⟩
  clear HK HFa HBs k0 k1 x0 x1 x2 x3 x4 y0 y1 y2 y3 y4
  go_loopg [7, 8, 9, 40] A.z.length (fun gk s x1 x2 q9 wr => ∃ (j : Nat) (U : Value), j + gk = A.z.length ∧ s = U ∧ q9 = .int .i64 j ∧ K27 w A (.slice p A.z.length cap) B (.slice q B.z.length cap') U (pkZ (A.z.take j) (B.z.take j)) wr)
  case atStart => exact ⟨0, _, by omega, rfl, rfl, HK0.out⟩
  case round =>
    obtain ⟨j, s0, hjg, rfl, rfl, hk⟩ := hrel
    have HV := Lib.hid hk
    clear hk HK0
    cases gk with
    | zero =>
      have hjz : ¬ ((j : Int) < (A.z.length : Int)) := by omega
      have HO : Hid (RdI wr.heap.size wr u7 (pkZ A.z B.z)) := by
        have h := (ins_new HV.out.own).rd
        rwa [show j = A.z.length by omega, HZe.out] at h
      have HK := Lib.hid HV.out.m
      clear HV HSn HPl HZe
      obtain ⟨Z, hZ⟩ : ∃ Z, pkZ A.z B.z = Z := ⟨_, rfl⟩
      have HZe2 : Hid (vecA B.k (pkZ A.z B.z) = ⟨B.k, 1, Z.length, 0, Z⟩) := by unfold Hid; rw [hZ]; rfl
      rw [hZ] at HMk HO
      clear hZ
      have x0 := HK.out.c.boxA.c0; have x1 := HK.out.c.boxA.c1; have x2 := HK.out.c.boxA.c2; have x3 := HK.out.c.boxA.c3; have x4 := HK.out.c.boxA.c4; have y0 := HK.out.c.boxB.c0; have y1 := HK.out.c.boxB.c1; have y2 := HK.out.c.boxB.c2; have y3 := HK.out.c.boxB.c3; have y4 := HK.out.c.boxB.c4
      obtain ⟨pz, cz, hpz, _, _, _⟩ := HO.out
      subst hpz
      go_wp2_with (go_at_call 21; (with_reducible refine (HMk.out _ _ HK.out.c.lay HO.out).mono ?_); rintro e w3 ⟨uu, rfl, hu, hb⟩; obtain ⟨qq, qc, hq, _, _⟩ := hu.form; have hq2 : uu = .slice qq Z.length qc := hq; subst hq2; clear hq; have HU : Hid (RdN wr.heap.size w3 (.slice qq Z.length qc) Z) := hu; have hlt := HK.out.sz; have HK2 := Lib.hid (HK.out.next hb); clear hu hb HK; have HK := HK2; clear HK2; have y0 := HK.out.res.c0; have y1 := HK.out.res.c1; have y2 := HK.out.res.c2; have y3 := HK.out.res.c3; have y4 := HK.out.res.c4; have f0 := HK.out.res.fr 0; have f1 := HK.out.res.fr 1; have f2 := HK.out.res.fr 2; have f3 := HK.out.res.fr 3; have f4 := HK.out.res.fr 4; have HS := Lib.hid (HK.out.res.set B.k 1 Z.length 0 (.slice qq Z.length qc)); have z0 := HS.out.c0; have z1 := HS.out.c1; have z2 := HS.out.c2; have z3 := HS.out.c3; have z4 := HS.out.c4)
      rw [HZe2.out]
      refine bodyPost_ret (v := .tuple #[A5 B.k 1 Z.length 0 (.slice qq Z.length qc), .int .i64 0]) (by simp [results, Tryd.results7, go_sem, z0, z1, z2, z3, z4]) rfl ?_
      exact ⟨_, rfl, (HU.out.st5 (by omega) _ _ _ _ _).mono (by omega), st5_below _ _ _ _ _ (by omega) HK.out.c.bel⟩
    | succ g2 =>
      have hjz : (j : Int) < (A.z.length : Int) := by omega
      have hj : j < A.z.length := by omega
      have hjb : j < B.z.length := by have := HLb.out; omega
      have hwi : IntKind.i64.wrap ((j : Int) + 1) = (j : Int) + 1 := by rw [IntKind.wrap_i64]; omega
      obtain ⟨bA, oA, hpA, _, hcA⟩ := HV.out.m.c.rdnA.cells (by intro e; rw [e] at hj; simp at hj)
      subst hpA
      have hxc := hcA j hj
      have HSq := Lib.hid (HSn.out j hj)
      rw [show A.z.getD j 0 = A.z[j] by rw [List.getD_eq_getElem?_getD, List.getElem?_eq_getElem hj]; rfl, show B.z.getD j 0 = B.z[j] by rw [List.getD_eq_getElem?_getD, List.getElem?_eq_getElem hjb]; rfl] at HSq
      clear hcA
      generalize A.z[j] = x at hxc HSq
      have y4 := HV.out.m.c.boxB.c4
      have hsz : w.heap.size + 3 ≤ wr.heap.size := HV.out.m.sz
      by_cases hx : x = 0
      · have k2 : (x != 0) = false := by simpa using hx
        rw [if_pos hx] at HSq
        have HV2 : Hid (K27 w A (.slice (some ⟨bA, oA, none⟩) A.z.length cap) B (.slice q B.z.length cap') u7 (pkZ (A.z.take (j + 1)) (B.z.take (j + 1))) wr) := by unfold Hid; rw [HSq.out]; exact HV.out
        clear hx
        go_wp2_with fail
        go_roundg g2
        case measure => omega
        case rel => exact ⟨j + 1, _, by omega, rfl, by go_num, HV2.out⟩
      · have k2 : (x != 0) = true := by simpa using hx
        rw [if_neg hx] at HSq
        clear hx
        obtain ⟨bB, oB, hpB, _, hcB⟩ := HV.out.m.c.rdnB.cells (by intro e; rw [e] at hjb; simp at hjb)
        subst hpB
        have hyc := hcB j hjb
        clear hcB
        generalize B.z[j] = c at hyc HSq
        have hjbi : (j : Int) < (B.z.length : Int) := by omega
        have hlen : (pkZ (A.z.take j) (B.z.take j)).length + 1 ≤ 1000000 := by have := HPl.out j; omega
        go_wp2_with (at_builtin; refine wpList_app1 (by simp [Region.wanted]) _ _ rfl (w.heap.size + 3) _ (pkZ (A.z.take j) (B.z.take j)) rfl HV.out.own c rfl hlen hsz ?_; intro u2 w2 hu2 hb2; have HV2 := Lib.hid (HV.out.step HW3.out hu2 hb2); clear hu2 hb2)
        rw [← HSq.out] at HV2
        go_roundg g2
        case measure => omega
        case rel => exact ⟨j + 1, _, by omega, rfl, by go_num, HV2.out⟩
end Go.Proofs.YtpbfbejckhbijaaDoor
