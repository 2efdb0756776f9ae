/- Several texts as one (a claim has at most 60 files): FiPs, FiPg, FiPr. -/
import Derived.Test.YtpbfbejckhbijaaDoorFiP
import Derived.Test.YtpbfbejckhbijaaDoorShelf
import Derived.Deep.DeepCutAuto
import Derived.Test.YtpbfbejckhbijaaDoorFiK
import Derived.Test.YtpbfbejckhbijaaDoorFiI
namespace Go.Proofs.YtpbfbejckhbijaaDoor
open Go.RowKit Go.Sort

theorem sym_any {z : List Int} {N : Nat} {w0 : World} {blk S gb : Nat} {d0 : Array (Fin (N + 1))} (B : SBase z w0 blk S gb d0) : ∀ (K n : Nat) (d : Array (Fin (N + 1))), d.size = S → ∀ a m b, b - a ≤ K → a < m → m < b → b ≤ S → Two z (fun t => d[t]!) a m b → Calls Tryd.prog 44 #[.slice (some ⟨blk, 0, none⟩) S S, .int .i64 a, .int .i64 m, .int .i64 b, .func (.func 26) #[] #[.pointer (some ⟨gb, 0, none⟩)]] (putRow encF (Sort.ahead w0 n) blk 0 d) fun e w' => e = .returned (.tuple #[]) ∧ MgW z w0 blk S d a b w' := by
  intro K
  induction K with
  | zero => intro n d hd a m b h1 h2 h3 h4 h5; omega
  | succ K ih =>
    intro n d hd a m b h1 h2 h3 h4 h5
    by_cases c1 : m = a + 1
    · exact sym_one B n d hd a m b c1 (by omega) h4 h5
    · by_cases c2 : b = m + 1
      · exact sym_last B n d hd a m b c2 (by omega) h4 h5
      · exact sym_main B n d hd a m b (by omega) (by omega) h4 h5 fun n' d' hd' a' m' b' g1 g2 g3 g4 g5 => ih n' d' hd' a' m' b' (by omega) g2 g3 g4 g5
theorem sym_insert {z : List Int} {N : Nat} {w0 : World} {blk S gb : Nat} {d0 : Array (Fin (N + 1))} (B : SBase z w0 blk S gb d0) (n : Nat) (d : Array (Fin (N + 1))) (hd : d.size = S) (a b : Nat) (hab : a ≤ b) (hb : b ≤ S) (hr : ∀ t, a ≤ t → t < b → (d[t]!).val = t) :
    Calls Tryd.prog 43 #[.slice (some ⟨blk, 0, none⟩) S S, .int .i64 a, .int .i64 b, .func (.func 26) #[] #[.pointer (some ⟨gb, 0, none⟩)]] (putRow encF (Sort.ahead w0 n) blk 0 d) fun e w' => e = .returned (.tuple #[]) ∧ ∃ (n' : Nat) (dk : Array (Fin (N + 1))), dk.size = S ∧ Bl z (fun t => dk[t]!) a b ∧ (∀ t, t < a ∨ b ≤ t → dk[t]! = d[t]!) ∧ w' = putRow encF (Sort.ahead w0 n') blk 0 dk := by
  obtain ⟨h1, h2⟩ := insSort_bl z d hab (by omega) hr
  have hs := insSort_size (ltOf (cfF z)) d a b
  have h := Any.insertionSortCmpFunc_one Tryd.isort (encF (m := N + 1)) (fun _ => rfl) (cfF z) 26 #[.pointer (some ⟨gb, 0, none⟩)] blk 0 S a b d _ (fun _ _ => by kernel_rfl) (by rw [hd]; exact B.reads n d hd) (B.holds n hd) hab (by omega) (by have := B.small; omega)
  rw [hd] at h
  refine h.mono ?_
  rintro e w' ⟨e1, q, e2⟩
  refine ⟨e1, n + q, _, by rw [hs, hd], h1, h2, ?_⟩
  rw [e2]
  show Sort.ahead (putRow encF (putRow encF (Sort.ahead w0 n) blk 0 d) blk 0 _) q = _
  rw [← putRow_ahead]
  exact putRow_ahead_putRow encF w0 n q blk 0 d _ hs
set_option maxRecDepth 100000 in
set_option maxHeartbeats 8000000 in
theorem stable_any {z : List Int} {N : Nat} {w0 : World} {blk S gb : Nat} {d0 : Array (Fin (N + 1))} (B : SBase z w0 blk S gb d0) (h0 : ∀ t, t < S → (d0[t]!).val = t) :
    Calls Tryd.prog 35 #[.slice (some ⟨blk, 0, none⟩) S S, .int .i64 S, .func (.func 26) #[] #[.pointer (some ⟨gb, 0, none⟩)]] w0 fun e w' => e = .returned (.tuple #[]) ∧ ∃ (n : Nat) (dk : Array (Fin (N + 1))), dk.size = S ∧ Bl z (fun t => dk[t]!) 0 S ∧ w' = putRow encF (Sort.ahead w0 n) blk 0 dk := by
  have hS := B.small
  have HI := Lib.hid (fun n d hd a b h1 h2 h3 => sym_insert B n d hd a b h1 h2 h3)
  have HM := Lib.hid (fun n d hd a m b h1 h2 h3 h4 => sym_any B S n d hd a m b (by omega) h1 h2 h3 h4)
  have HB := Lib.hid B
  have H0 := Lib.hid h0
  have HW : Hid (w0 = putRow encF (Sort.ahead w0 0) blk 0 d0) := (putRow_self encF w0 blk 0 d0 B.hold).symm
  have HD := Lib.hid B.size
  clear B h0
  go_enter Tryd.func35, Tryd.ntmps35
  go_wp2_with fail
  go_loopw [7, 8] (fun va vb wr => ∃ (p n : Nat) (d : Array (Fin (N + 1))), va = .int .i64 p ∧ vb = .int .i64 ((p + 20 : Nat) : Int) ∧ p ≤ S ∧ Hid (d.size = S) ∧ Hid (∃ k, p = 20 * k ∧ ∀ j, j < k → Bl z (fun t => d[t]!) (20 * j) (20 * j + 20)) ∧ Hid (∀ t, p ≤ t → t < S → (d[t]!).val = t) ∧ Hid (wr = putRow encF (Sort.ahead w0 n) blk 0 d)) (fun va _ _ => S + 20 - (intOf va).toNat)
  case atStart => exact ⟨0, 0, d0, rfl, rfl, Nat.zero_le _, HD.out, ⟨0, rfl, fun j hj => by omega⟩, fun t _ ht => H0.out t ht, HW.out⟩
  case round =>
    clear HW HD H0
    obtain ⟨p, n, d, rfl, rfl, hp, HD, HK, HR, HW⟩ := hrel
    obtain ⟨b, hb⟩ : ∃ b, b = p + 20 := ⟨_, rfl⟩
    rw [← hb]
    by_cases hlt : b ≤ S
    · have hc := HI.out n d HD.out p b (by omega) hlt (fun t h1 h2 => HR.out t h1 (by omega))
      rw [← HW.out] at hc
      have HC := Lib.hid hc
      have kb : (b : Int) ≤ (S : Int) := by omega
      have HBq := Lib.hid hb
      have hb20 : b ≤ 100000 := by omega
      clear hc hb
      go_wp2_with (first | (go_at_call 43; refine HC.out.mono ?_; rintro e9 w9 ⟨rfl, n9, d9, q1, q2, q3, q4⟩; have HQ := Lib.hid (And.intro q1 (And.intro q2 (And.intro q3 q4))); clear q1 q2 q3 q4) | fail)
      go_roundw
      case rel =>
        obtain ⟨q1, q2, q3, q4⟩ := HQ.out
        have hb := HBq.out
        refine ⟨b, n9, d9, rfl, by go_num, hlt, q1, ?_, fun t h1 h2 => by rw [q3 t (.inr h1)]; exact HR.out t (by omega) h2, q4⟩
        obtain ⟨k, k1, k2⟩ := HK.out
        refine ⟨k + 1, by omega, fun j hj => ?_⟩
        by_cases c : j = k
        · subst c; rw [show 20 * j = p by omega, ← hb]; exact q2
        · exact (k2 j (by omega)).keep fun x x1 x2 => q3 x (.inl (by omega))
      case measure => simp [intOf]; have := HBq.out; omega
    · have hc := HI.out n d HD.out p S hp (Nat.le_refl _) (fun t h1 h2 => HR.out t h1 (by omega))
      rw [← HW.out] at hc
      have HC := Lib.hid hc
      have kb : ¬ (b : Int) ≤ (S : Int) := by omega
      have HBq := Lib.hid hb
      clear hc
      go_wp2_with (first | (go_at_call 43; refine HC.out.mono ?_; rintro e9 w9 ⟨rfl, n9, d9, q1, q2, q3, q4⟩; have HQ := Lib.hid (And.intro q1 (And.intro q2 (And.intro q3 q4))); clear q1 q2 q3 q4) | fail)
      have HS1 : Hid (Bls z (fun t => d9[t]!) 20 S) := by
        obtain ⟨q1, q2, q3, q4⟩ := HQ.out
        have hb := HBq.out
        obtain ⟨k, k1, k2⟩ := HK.out
        intro j
        rcases Nat.lt_trichotomy j k with c | c | c
        · rw [show min (j * 20) S = 20 * j by omega, show min ((j + 1) * 20) S = 20 * j + 20 by omega]
          exact (k2 j c).keep fun x x1 x2 => q3 x (.inl (by omega))
        · rw [show min (j * 20) S = p by omega, show min ((j + 1) * 20) S = S by omega]; exact q2
        · exact Bl.none z _ (by omega)
      have HD9 := Lib.hid HQ.out.1
      have HW9 := Lib.hid HQ.out.2.2.2
      clear HQ HBq HC HI HK HR HW HD kb hlt hb hp
      go_loopw [6] (fun vs wr => ∃ (bs n : Nat) (d : Array (Fin (N + 1))), vs = .int .i64 bs ∧ 20 ≤ bs ∧ bs ≤ 200000 ∧ Hid (d.size = S) ∧ Hid (Bls z (fun t => d[t]!) bs S) ∧ Hid (wr = putRow encF (Sort.ahead w0 n) blk 0 d)) (fun vs _ => S - (intOf vs).toNat)
      case atStart => exact ⟨20, n9, d9, rfl, Nat.le_refl _, by omega, HD9, HS1, HW9⟩
      case round =>
        clear HD9 HW9 HS1
        obtain ⟨bs, n1, d1, rfl, hb1, hb2, HD1, HB1, HW1⟩ := hrel
        obtain ⟨t2, ht2⟩ : ∃ t2, t2 = 2 * bs := ⟨_, rfl⟩
        have k2 : (2 : Int) * (bs : Int) = (t2 : Int) := by omega
        have k2b : (bs : Int) * 2 = (t2 : Int) := by omega
        have ht3 : t2 ≤ 400000 := by omega
        have ht4 : 40 ≤ t2 := by omega
        have HT2 := Lib.hid ht2
        clear ht2
        by_cases hlt : bs < S
        · have kb : (bs : Int) < (S : Int) := by omega
          go_wp2_with fail
          go_loopw [7, 8] (fun va vb wr => ∃ (p k n : Nat) (d : Array (Fin (N + 1))), va = .int .i64 p ∧ vb = .int .i64 ((p + t2 : Nat) : Int) ∧ p ≤ S ∧ Hid (p = k * (2 * bs)) ∧ Hid (d.size = S) ∧ Hid (Half z (fun t => d[t]!) bs S k) ∧ Hid (wr = putRow encF (Sort.ahead w0 n) blk 0 d)) (fun va _ _ => S + 1 - (intOf va).toNat)
          case atStart => exact ⟨0, 0, n1, d1, rfl, by simp, Nat.zero_le _, by show 0 = 0 * _; omega, HD1.out, Half.start HB1.out, HW1.out⟩
          case round =>
            clear HD1 HB1 HW1
            obtain ⟨p, k, n, d, rfl, rfl, hp, HP, HD, HH, HW⟩ := hrel
            obtain ⟨b, hb⟩ : ∃ b, b = p + t2 := ⟨_, rfl⟩
            obtain ⟨m, hm⟩ : ∃ m, m = p + bs := ⟨_, rfl⟩
            rw [← hb]
            have k3 : (p : Int) + (bs : Int) = (m : Int) := by omega
            have hmb : m < b := by have := HT2.out; omega
            have hpm : p < m := by omega
            have hbl : b ≤ 600000 := by omega
            have HBq := Lib.hid hb
            have HMq := Lib.hid hm
            have HEq : Hid (p = k * (2 * bs) ∧ m = k * (2 * bs) + bs ∧ b = k * (2 * bs) + 2 * bs) := by have := HP.out; have := HT2.out; exact ⟨this ▸ HP.out, by omega, by omega⟩
            by_cases hbS : b ≤ S
            · have h2 := HH.out.two (by have := HEq.out; omega)
              rw [← HEq.out.1, ← hm, show p + 2 * bs = b by have := HT2.out; omega, Nat.min_eq_left hbS] at h2
              have hc := HM.out n d HD.out p m b hpm hmb hbS (h2.1.two h2.2)
              rw [← HW.out] at hc
              have HC := Lib.hid hc
              have kc : (b : Int) ≤ (S : Int) := by omega
              clear hc h2 hb hm
              go_wp2_with (first | (go_at_call 44; refine HC.out.mono ?_; rintro e8 w8 ⟨rfl, n8, d8, q1, q2, q3⟩; have HQ := Lib.hid (And.intro q1 (And.intro q2 q3)); clear q1 q2 q3) | fail)
              go_roundw
              case rel =>
                obtain ⟨q1, q2, q3⟩ := HQ.out
                obtain ⟨e1, e2, e3⟩ := HEq.out
                refine ⟨b, k + 1, n8, d8, rfl, by go_num, hbS, ?_, q1, HH.out.next (by omega) (by rw [← e1, show p + 2 * bs = b by have := HT2.out; have := HBq.out; omega]; exact q2), q3⟩
                have := (half_eqs bs k).2.2.2
                show b = (k + 1) * (2 * bs)
                omega
              case measure => simp [intOf]; have := HBq.out; omega
            · have kc : ¬ (b : Int) ≤ (S : Int) := by omega
              by_cases hmS : m < S
              · have h2 := HH.out.two (by have := HEq.out; omega)
                rw [← HEq.out.1, ← hm, show p + 2 * bs = b by have := HT2.out; omega, Nat.min_eq_right (by omega)] at h2
                have hc := HM.out n d HD.out p m S hpm hmS (Nat.le_refl _) (h2.1.two h2.2)
                rw [← HW.out] at hc
                have HC := Lib.hid hc
                have km : (m : Int) < (S : Int) := by omega
                have HbS := Lib.hid hbS
                clear hc h2 hb hm hbS
                go_wp2_with (first | (go_at_call 44; refine HC.out.mono ?_; rintro e8 w8 ⟨rfl, n8, d8, q1, q2, q3⟩; have HQ := Lib.hid (And.intro q1 (And.intro q2 q3)); clear q1 q2 q3) | fail)
                go_roundw
                case rel =>
                  obtain ⟨q1, q2, q3⟩ := HQ.out
                  obtain ⟨e1, e2, e3⟩ := HEq.out
                  have e4 := HT2.out
                  exact ⟨t2, n8, d8, by go_num, by omega, by omega, q1, by show Bls z _ t2 S; rw [e4]; exact HH.out.end2 (by have := HbS.out; omega) (by omega) (by rw [← e1]; exact q2), q3⟩
                case measure => simp [intOf]; have := HT2.out; omega
              · have km : ¬ (m : Int) < (S : Int) := by omega
                have HmS := Lib.hid hmS
                clear hb hm hbS hmS
                go_wp2_with fail
                go_roundw
                case rel =>
                  obtain ⟨e1, e2, e3⟩ := HEq.out
                  have e4 := HT2.out
                  exact ⟨t2, n, d, by go_num, by omega, by omega, HD.out, by show Bls z _ t2 S; rw [e4]; exact HH.out.end1 (by have := HmS.out; omega) (by omega), HW.out⟩
                case measure => simp [intOf]; have := HT2.out; omega
        · have kb : ¬ (bs : Int) < (S : Int) := by omega
          have HEnd : Hid (∃ (n : Nat) (dk : Array (Fin (N + 1))), dk.size = S ∧ Bl z (fun t => dk[t]!) 0 S ∧ wr = putRow encF (Sort.ahead w0 n) blk 0 dk) := ⟨n1, d1, HD1.out, by have h := HB1.out 0; rwa [show min (0 * bs) S = 0 by omega, show min ((0 + 1) * bs) S = S by omega] at h, HW1.out⟩
          clear HD1 HB1 HW1 hlt k2 k2b HT2
          go_wp2_with fail
          go_end0
          exact ⟨rfl, HEnd.out⟩

theorem ahead_sort {z : List Int} {N : Nat} (w : World) (blk k : Nat) (d : Array (Fin (N + 1))) : putRow encF (Sort.ahead w k) blk 0 d = sortWorld encF w blk 0 k d #[] := by
  have _ := z
  rw [sortWorld_none]
  rfl
/-- The sorted places are in order. -/
theorem grS_asc {n : Nat} (z : List Int) (hz : z.length = n + 1) : Bl z (fun t => (Sort.insertionSort (ltOf (cfF z)) (Array.ofFn (fun i : Fin (n + 1) => i)) 0 (n + 1))[t]!) 0 (n + 1) := by
  have _ := hz
  refine (insSort_bl z _ (Nat.zero_le _) (by simp) fun t _ ht => ?_).1
  rw [getElem!_pos _ t (by simpa using ht)]
  simp
theorem grS_is {n : Nat} (z : List Int) (hz : z.length = n + 1) (dk : Array (Fin (n + 1))) (hd : dk.size = n + 1) (h : Bl z (fun t => dk[t]!) 0 (n + 1)) : grS z = dk.toList.map fun i => (i.val : Int) := by
  have h1 := grS_asc z hz
  unfold grS
  rw [hz]
  show (Array.toList _).map _ = _
  congr 1
  apply List.ext_getElem
  · simp [insSort_size, hd]
  · intro t g1 g2
    have ht : t < n + 1 := by simpa [hd] using g2
    have h2 := asc_one h1.1 h.1 ht
    have h3 : (Sort.insertionSort (ltOf (cfF z)) (Array.ofFn (fun i : Fin (n + 1) => i)) 0 (n + 1))[t]! = dk[t]! := h2
    rw [getElem!_pos _ t (by simpa using g1), getElem!_pos _ t (by simpa using g2)] at h3
    simpa using h3
set_option maxRecDepth 100000 in
set_option maxHeartbeats 4000000 in
theorem sort_some {n : Nat} (z : List Int) (hz : z.length = n + 1) (h20 : n + 1 ≤ 100000) (gb blk : Nat) (v : Value) (w : World) (hb : w.cell? ⟨gb, 4, none⟩ = some v) (hv : RdX [blk] w v z) (hg : gb ≠ blk) (hgl : gb < w.heap.size)
    (hr : w.rowIs blk 2 (n + 1) (zf (upZ (n + 1)) (n + 1))) :
    Calls Tryd.prog 25 #[.slice (some ⟨blk, 0, none⟩) (n + 1) (n + 1), .func (.func 26) #[] #[.pointer (some ⟨gb, 0, none⟩)]] w fun e w' => e = .returned (.tuple #[]) ∧ RdI w'.heap.size w' (.slice (some ⟨blk, 0, none⟩) (n + 1) (n + 1)) (grS z) ∧ Below blk w w' := by
  obtain ⟨d, hd⟩ : ∃ d : Array (Fin (n + 1)), d = Array.ofFn (fun i : Fin (n + 1) => i) := ⟨_, rfl⟩
  have hds : d.size = n + 1 := by rw [hd]; simp
  have hdv : ∀ t, t < n + 1 → (d[t]!).val = t := fun t ht => by
    subst hd
    rw [getElem!_pos _ t (by simpa using ht)]
    simp
  have hH : Holds encF w blk 0 d := fun j hj => by
    have hj2 : j < n + 1 := by omega
    refine ⟨?_, hr.frozen _⟩
    rw [Nat.zero_add, hr.cell hj2]
    unfold zf encF
    rw [if_pos hj2, upZ_at hj2, hdv j hj2]
  have hrd : ∀ (k : Nat) (dk : Array (Fin (n + 1))), CmpReads Tryd.prog 26 #[.pointer (some ⟨gb, 0, none⟩)] (encF (m := n + 1)) (cfF z) blk 0 (n + 1) (putRow encF (Sort.ahead w k) blk 0 dk) := fun k dk => by
    have hh : ∀ c, c ≠ blk → c < w.heap.size → (putRow encF (Sort.ahead w k) blk 0 dk).heap[c]? = w.heap[c]? := fun c h1 h2 => by rw [ahead_sort (z := z)]; exact sortWorld_heap _ _ _ _ _ _ _ h1 h2
    have hsz : w.heap.size ≤ (putRow encF (Sort.ahead w k) blk 0 dk).heap.size := by rw [ahead_sort (z := z)]; exact sortWorld_size _ _ _ _ _ _ _
    refine cmpReads_grade z hz gb blk v _ ?_ (hv.keep hsz fun c hc hl => hh c (by simpa using hc) hl) hg (by omega)
    have h := hb
    unfold World.cell? at h ⊢
    rw [hh gb hg hgl]
    exact h
  have B : SBase z w blk (n + 1) gb d := ⟨hH, hds, h20, fun k dk _ => hrd k dk, fun k dk hdk x y => by
    have h := hrd k dk 0 #[] dk hdk x y
    rw [sortWorld_none, putRow_putRow encF _ blk 0 dk dk rfl] at h
    exact h⟩
  have HSt := Lib.hid (stable_any B hdv)
  have HEnd : Hid (∀ w', (∃ (k : Nat) (dk : Array (Fin (n + 1))), dk.size = n + 1 ∧ Bl z (fun t => dk[t]!) 0 (n + 1) ∧ w' = putRow encF (Sort.ahead w k) blk 0 dk) → RdI w'.heap.size w' (.slice (some ⟨blk, 0, none⟩) (n + 1) (n + 1)) (grS z) ∧ Below blk w w') := by
    rintro w' ⟨k, dk, h1, h2, h3⟩
    have hgs := grS_is z hz dk h1 h2
    have hp := B.holds k h1
    have hl : (grS z).length = n + 1 := by rw [hgs]; simp [h1]
    have hlt := hr.lt
    subst h3
    have hbl : Below blk w (putRow encF (Sort.ahead w k) blk 0 dk) := (below_drewN (Below.refl _ _) k).trans (putRow_below encF (w.drewN k) blk 0 dk (Nat.le_refl _))
    refine ⟨⟨_, _, by rw [hl], by rw [hl]; exact Nat.le_refl _, by omega, fun _ => ⟨blk, 0, rfl, ?_, fun j hj => ?_⟩⟩, hbl⟩
    · show blk < (putRow encF _ blk 0 _).heap.size
      simpa using hlt
    · rw [hl] at hj
      have h4 := (hp j (by omega)).1
      rw [h4]
      unfold encF
      simp only [hgs, List.getElem_map, Array.getElem_toList]
      rw [getElem!_pos _ j (by omega)]
  clear hrd hH hdv hds hd B hr hv hb
  obtain ⟨M, hM⟩ : ∃ M : Nat, n + 1 = M := ⟨_, rfl⟩
  rw [hM] at h20
  have HM := Lib.hid hM
  have HSt2 : Hid (Calls Tryd.prog 35 #[.slice (some ⟨blk, 0, none⟩) M M, .int .i64 (M : Int), .func (.func 26) #[] #[.pointer (some ⟨gb, 0, none⟩)]] w fun e w' => e = .returned (.tuple #[]) ∧ Hid (RdI w'.heap.size w' (.slice (some ⟨blk, 0, none⟩) M M) (grS z) ∧ Below blk w w')) := by
    subst hM
    exact HSt.out.mono fun e w' h => ⟨h.1, HEnd.out w' h.2⟩
  have hcast : ((n : Int) + 1) = (M : Int) := by omega
  rw [show (((n + 1 : Nat)) : Nat) = M from hM]
  clear HSt HEnd hM hz hcast
  go_enter Tryd.func25, Tryd.ntmps25
  go_wp2_with (first | (go_at_call 35; refine HSt2.out.mono ?_; rintro e w1 ⟨rfl, hq⟩) | fail)
  go_end0
  exact ⟨rfl, hq.out⟩
set_option maxRecDepth 100000 in
set_option maxHeartbeats 4000000 in
theorem sort_none (gb blk : Nat) (w : World) :
    Calls Tryd.prog 25 #[.slice (some ⟨blk, 0, none⟩) 0 0, .func (.func 26) #[] #[.pointer (some ⟨gb, 0, none⟩)]] w fun e w' => e = .returned (.tuple #[]) ∧ w' = w := by
  have HIn : Hid (∀ W, Calls Tryd.prog 43 #[.slice (some ⟨blk, 0, none⟩) 0 0, .int .i64 0, .int .i64 0, .func (.func 26) #[] #[.pointer (some ⟨gb, 0, none⟩)]] W fun e w' => e = .returned (.tuple #[]) ∧ w' = W) := fun W => by
    go_enter Tryd.func43, Tryd.ntmps43
    go_wp2
    refine wp_loop_rounds 1 ?_
    rw [rounds_succ]
    go_wp2
    go_end0
    exact ⟨rfl, rfl⟩
  have HSt : Hid (∀ W, Calls Tryd.prog 35 #[.slice (some ⟨blk, 0, none⟩) 0 0, .int .i64 0, .func (.func 26) #[] #[.pointer (some ⟨gb, 0, none⟩)]] W fun e w' => e = .returned (.tuple #[]) ∧ w' = W) := fun W => by
    go_enter Tryd.func35, Tryd.ntmps35
    go_wp2
    refine wp_loop_rounds 1 ?_
    rw [rounds_succ]
    go_wp2_with (go_at_call 43; refine (HIn.out _).mono ?_; rintro e w1 ⟨rfl, rfl⟩)
    refine wp_loop_rounds 1 ?_
    rw [rounds_succ]
    go_wp2
    go_end0
    exact ⟨rfl, rfl⟩
  go_enter Tryd.func25, Tryd.ntmps25
  go_wp2_with (go_at_call 35; refine (HSt.out _).mono ?_; rintro e w1 ⟨rfl, rfl⟩)
  go_end0
  exact ⟨rfl, rfl⟩
/-- At any length. -/
theorem sort_all (z : List Int) (hs : z.length ≤ 100000) (gb blk : Nat) (v : Value) (w : World) (hb : w.cell? ⟨gb, 4, none⟩ = some v) (hv : RdX [blk] w v z) (hg : gb ≠ blk) (hgl : gb < w.heap.size)
    (hr : w.rowIs blk 2 z.length (zf (upZ z.length) z.length)) :
    Calls Tryd.prog 25 #[.slice (some ⟨blk, 0, none⟩) z.length z.length, .func (.func 26) #[] #[.pointer (some ⟨gb, 0, none⟩)]] w fun e w' => e = .returned (.tuple #[]) ∧ RdI w'.heap.size w' (.slice (some ⟨blk, 0, none⟩) z.length z.length) (grS z) ∧ Below blk w w' := by
  cases hz : z.length with
  | zero =>
    refine (sort_none gb blk w).mono ?_
    rintro e w' ⟨rfl, rfl⟩
    have : grS z = [] := by unfold grS; rw [hz]
    rw [this]
    exact ⟨rfl, ⟨_, _, rfl, Nat.le_refl _, by simp, fun h => absurd rfl h⟩, Below.refl _ _⟩
  | succ n => exact sort_some z hz (by omega) gb blk v w hb hv hg hgl (by rw [← hz]; exact hr)
end Go.Proofs.YtpbfbejckhbijaaDoor
namespace Go.Proofs.YtpbfbejckhbijaaDoor
open Go.RowKit Go.Sort

set_option maxRecDepth 100000 in
set_option maxHeartbeats 16000000 in
theorem igrade_good (A : Ar) (v : Value) (w : World) (hw : Ru.Lay w) (hv : RdI w.heap.size w v A.z) (h1 : oneF A 1 1 = 0) (h20 : A.z.length ≤ 400) :
    Calls Tryd.prog 9 #[A5 A.k A.r A.a A.b v] w (RetE ⟨1, 1, (grS A.z).length, 0, grS A.z⟩ 0 w) := by
  have HFa : Hid (∀ W g, W.heap.size = g → Ru.Lay W → RdI W.heap.size W v A.z → Calls Tryd.prog 20 #[.bool (A.k == 1), .bool (A.r == 1), .slice (some ⟨g, 0, none⟩) 1 1] (W.alloc (.cells #[.int .i64 A.k, .int .i64 A.r, .int .i64 A.a, .int .i64 A.b, v] 25)) fun e w' => e = .returned (.int .i64 0) ∧ Below W.heap.size W w') := fun W g hg g1 g2 => by
    have h := ifault1_any (A.k == 1) (A.r == 1) A v W g hg g1 g2 (by omega)
    rwa [fk_one, h1] at h
  clear h1
  have HPl := Lib.hid (fun W => places_any A.z.length W (by omega))
  have HIn : Hid (∀ W v, RdI W.heap.size W v (grS A.z) → Calls Tryd.prog 28 #[v] W (RetE ⟨1, 1, (grS A.z).length, 0, grS A.z⟩ 0 W)) := fun W v h => by
    have h' := ints_any (grS A.z) v W h
    have hl := grS_len A.z
    rwa [show vcV 1 (grS A.z) = ⟨1, 1, (grS A.z).length, 0, grS A.z⟩ from if_neg (by omega), show vcE (grS A.z) = 0 from if_neg (by omega)] at h'
  have HSs : Hid (∀ (W : World) (blk : Nat), Below w.heap.size w W → w.heap.size < blk → W.cell? ⟨w.heap.size, 4, none⟩ = some v → w.heap.size < W.heap.size → W.rowIs blk 2 A.z.length (zf (upZ A.z.length) A.z.length) → Calls Tryd.prog 25 #[.slice (some ⟨blk, 0, none⟩) A.z.length A.z.length, .func (.func 26) #[] #[.pointer (some ⟨w.heap.size, 0, none⟩)]] W fun e w' => e = .returned (.tuple #[]) ∧ RdI w'.heap.size w' (.slice (some ⟨blk, 0, none⟩) A.z.length A.z.length) (grS A.z) ∧ Below blk W w') := fun W blk hb hbl hc hs hr => by
    exact sort_all A.z (by omega) w.heap.size blk v W hc (rdI_toX (hv.below hb) hb.size (by intro g hg; simp at hg; omega)) (by omega) hs hr
  have HK := Lib.hid (MK1.new (A := A) hw hv)
  have HW3 := Lib.hid hw.size
  have x0 := HK.out.box.c0; have x1 := HK.out.box.c1; have x2 := HK.out.box.c2; have x3 := HK.out.box.c3; have x4 := HK.out.box.c4
  obtain ⟨p, cap, rfl, _, _, _⟩ := hv
  clear hw
  have hgl := grS_len A.z
  generalize grS A.z = Z at HIn HSs hgl ⊢
  have HGl := Lib.hid hgl
  clear hgl
  go_enter Tryd.func9, Tryd.ntmps9
  go_wp2_with (first
    | (go_at_call 20; (with_reducible refine (HFa.out _ _ (by first | rfl | simp) HK.out.lay HK.out.rdn).mono ?_); rintro e w1 ⟨rfl, hb⟩; have HK2 := Lib.hid (HK.out.next hb); clear HK x0 x1 x2 x3 x4; have HK := HK2; clear HK2; have x0 := HK.out.box.c0; have x1 := HK.out.box.c1; have x2 := HK.out.box.c2; have x3 := HK.out.box.c3; have x4 := HK.out.box.c4; clear hb)
    | (go_at_call 24; (with_reducible refine (HPl.out _).mono ?_); rintro e w2 ⟨rfl, hr, hb⟩; have HRw := Lib.hid hr; have hlt1 := HK.out.sz; clear hr; have HK2 := Lib.hid (HK.out.next hb); clear HK x0 x1 x2 x3 x4; have HK := HK2; clear HK2; have x0 := HK.out.box.c0; have x1 := HK.out.box.c1; have x2 := HK.out.box.c2; have x3 := HK.out.box.c3; have x4 := HK.out.box.c4; clear hb)
    | (go_at_call 25; (with_reducible refine (HSs.out _ _ HK.out.bel (by omega) x4 (by have := HK.out.sz; omega) HRw.out).mono ?_); rintro e w3 ⟨rfl, hr, hb⟩; have HRz := Lib.hid hr; have HKn := Lib.hid (HK.out.far (hb.mono hlt1) (HK.out.lay.below HW3.out (hb.mono (by omega)))); clear HK hb hr x0 x1 x2 x3 x4; have HK := HKn; clear HKn; have x0 := HK.out.box.c0; have x1 := HK.out.box.c1; have x2 := HK.out.box.c2; have x3 := HK.out.box.c3; have x4 := HK.out.box.c4)
    | (go_at_call 28; (with_reducible refine (HIn.out _ _ HRz.out).mono ?_); rintro e w4 ⟨u, rfl, hu, hb⟩; obtain ⟨q, qc, hq, _, _⟩ := hu.form; have hq2 : u = .slice q Z.length qc := hq; subst hq2; clear hq; have HU : Hid (RdN w3.heap.size w4 (.slice q Z.length qc) Z) := hu; have hlt := HK.out.sz; have HK2 := Lib.hid (HK.out.next hb); clear HK x0 x1 x2 x3 x4; have HK := HK2; clear HK2; have x0 := HK.out.box.c0; have x1 := HK.out.box.c1; have x2 := HK.out.box.c2; have x3 := HK.out.box.c3; have x4 := HK.out.box.c4; clear hu hb; have y0 := HK.out.res.c0; have y1 := HK.out.res.c1; have y2 := HK.out.res.c2; have y3 := HK.out.res.c3; have y4 := HK.out.res.c4; have f0 := HK.out.res.fr 0; have f1 := HK.out.res.fr 1; have f2 := HK.out.res.fr 2; have f3 := HK.out.res.fr 3; have f4 := HK.out.res.fr 4; have HS := Lib.hid (HK.out.res.set 1 1 Z.length 0 (.slice q Z.length qc)); have z0 := HS.out.c0; have z1 := HS.out.c1; have z2 := HS.out.c2; have z3 := HS.out.c3; have z4 := HS.out.c4)
    | fail)
  refine bodyPost_ret (v := .tuple #[A5 1 1 Z.length 0 (.slice q Z.length qc), .int .i64 0]) (by simp [results, Tryd.results9, go_sem, z0, z1, z2, z3, z4]) rfl ?_
  exact ⟨_, rfl, (HU.out.st5 (by omega) _ _ _ _ _).mono (by omega), st5_below _ _ _ _ _ (by omega) HK.out.bel⟩

/-- Grade: its error, its places. -/
def grE (A : Ar) : Int := oneF A 1 1
def grV (A : Ar) : Ar := orNo (grE A) ⟨1, 1, (grS A.z).length, 0, grS A.z⟩
set_option maxRecDepth 100000 in
set_option maxHeartbeats 16000000 in
theorem igrade_any (A : Ar) (v : Value) (w : World) (hw : Ru.Lay w) (hv : RdI w.heap.size w v A.z) (hl : A.z.length ≤ 100000) :
    Calls Tryd.prog 9 #[A5 A.k A.r A.a A.b v] w (RetE (grV A) (grE A) w) := by
  by_cases h1 : oneF A 1 1 = 0
  · unfold grV grE
    rw [orNo_yes h1, h1]
    exact igrade_good A v w hw hv h1 (ck_good (oneF_ok h1).1).len4
  have HFa : Hid (∀ W g, W.heap.size = g → Ru.Lay W → RdI W.heap.size W v A.z → Calls Tryd.prog 20 #[.bool (A.k == 1), .bool (A.r == 1), .slice (some ⟨g, 0, none⟩) 1 1] (W.alloc (.cells #[.int .i64 A.k, .int .i64 A.r, .int .i64 A.a, .int .i64 A.b, v] 25)) fun e w' => e = .returned (.int .i64 (grE A)) ∧ Below W.heap.size W w') := fun W g hg g1 g2 => by
    have h := ifault1_any (A.k == 1) (A.r == 1) A v W g hg g1 g2 (by omega)
    rwa [fk_one] at h
  have HK := Lib.hid (MK1.new (A := A) hw hv)
  have HW3 := Lib.hid hw.size
  have x0 := HK.out.box.c0; have x1 := HK.out.box.c1; have x2 := HK.out.box.c2; have x3 := HK.out.box.c3; have x4 := HK.out.box.c4
  obtain ⟨p, cap, rfl, _, _, _⟩ := hv
  clear hw
  have hE : grE A ≠ 0 := h1
  rw [show grV A = Ar.no from orNo_no hE]
  generalize grE A = E at hE HFa ⊢
  have k1 : (E != 0) = true := by simpa using hE
  clear h1 hE
  go_enter Tryd.func9, Tryd.ntmps9
  go_wp2_with (go_at_call 20; (with_reducible refine (HFa.out _ _ (by first | rfl | simp) HK.out.lay HK.out.rdn).mono ?_); rintro e w1 ⟨rfl, hb⟩; have HK2 := Lib.hid (HK.out.next hb); clear HK x0 x1 x2 x3 x4; have HK := HK2; clear HK2; have x0 := HK.out.box.c0; have x1 := HK.out.box.c1; have x2 := HK.out.box.c2; have x3 := HK.out.box.c3; have x4 := HK.out.box.c4; clear hb; have y0 := HK.out.res.c0; have y1 := HK.out.res.c1; have y2 := HK.out.res.c2; have y3 := HK.out.res.c3; have y4 := HK.out.res.c4; have f0 := HK.out.res.fr 0; have f1 := HK.out.res.fr 1; have f2 := HK.out.res.fr 2; have f3 := HK.out.res.fr 3; have f4 := HK.out.res.fr 4; have HS := Lib.hid (HK.out.res.set 0 0 0 0 (.slice none 0 0)); have z0 := HS.out.c0; have z1 := HS.out.c1; have z2 := HS.out.c2; have z3 := HS.out.c3; have z4 := HS.out.c4)
  exact bodyPost_ret (v := .tuple #[A5 0 0 0 0 (.slice none 0 0), .int .i64 E]) (by simp [results, Tryd.results9, go_sem, z0, z1, z2, z3, z4]) rfl (retE_no _ (st5_below _ _ _ _ _ (by omega) HK.out.bel))
end Go.Proofs.YtpbfbejckhbijaaDoor
namespace Go.Proofs.YtpbfbejckhbijaaDoor
open Go.RowKit

set_option maxRecDepth 100000 in
set_option maxHeartbeats 16000000 in
theorem rpick_any8 (A B : Ar) (v u : Value) (w : World) (hw : Ru.Lay w) (hv : RdI w.heap.size w v A.z) (hu : RdI w.heap.size w u B.z) (hl : A.z.length ≤ 100000) (hl' : B.z.length ≤ 100000) :
    Calls Tryd.prog 8 #[A5 A.k A.r A.a A.b v, A5 B.k B.r B.a B.b u] w (RetE (pkV A B) (pkE A B) w) := by
  have HTw : Hid (∀ W, Ru.Lay W → RdI W.heap.size W v A.z → RdI W.heap.size W u B.z → Calls Tryd.prog 22 #[A5 A.k A.r A.a A.b v, A5 B.k B.r B.a B.b u, .int .i64 1, .int .i64 1] W fun e w' => e = .returned (.int .i64 (pkT A B)) ∧ Below W.heap.size W w') := fun W h1 h2 h3 => two_any A B 1 1 v u W h1 h2 h3 (by omega) (by omega)
  have HK := Lib.hid (MK2.new (A := A) (B := B) hw hv hu)
  have HW3 := Lib.hid hw.size
  have x0 := HK.out.c.boxA.c0; have x1 := HK.out.c.boxA.c1; have x2 := HK.out.c.boxA.c2; have x3 := HK.out.c.boxA.c3; have x4 := HK.out.c.boxA.c4; have y0 := HK.out.c.boxB.c0; have y1 := HK.out.c.boxB.c1; have y2 := HK.out.c.boxB.c2; have y3 := HK.out.c.boxB.c3; have y4 := HK.out.c.boxB.c4
  obtain ⟨p, cap, rfl, _, _, _⟩ := hv
  obtain ⟨q, cap', rfl, _, _, _⟩ := hu
  clear hw
  by_cases h1 : pkT A B ≠ 0
  · have hE : pkE A B = pkT A B := if_neg h1
    rw [show pkV A B = Ar.no from orNo_no (by rw [hE]; exact h1), hE]
    generalize pkT A B = E at h1 HTw ⊢
    have k1 : (E == 0) = false := by simpa using h1
    have k2 : (E != 0) = true := by simpa using h1
    clear h1 hE
    go_enter Tryd.func8, Tryd.ntmps8
    go_wp2_with (go_at_call 22; (with_reducible refine (HTw.out _ HK.out.c.lay HK.out.c.rdnA HK.out.c.rdnB).mono ?_); rintro e w1 ⟨rfl, hb⟩; have HK2 := Lib.hid (HK.out.next hb); clear HK x0 x1 x2 x3 x4 y0 y1 y2 y3 y4; have HK := HK2; clear HK2; have x0 := HK.out.c.boxA.c0; have x1 := HK.out.c.boxA.c1; have x2 := HK.out.c.boxA.c2; have x3 := HK.out.c.boxA.c3; have x4 := HK.out.c.boxA.c4; have y0 := HK.out.c.boxB.c0; have y1 := HK.out.c.boxB.c1; have y2 := HK.out.c.boxB.c2; have y3 := HK.out.c.boxB.c3; have y4 := HK.out.c.boxB.c4; clear hb; have y0 := HK.out.res.c0; have y1 := HK.out.res.c1; have y2 := HK.out.res.c2; have y3 := HK.out.res.c3; have y4 := HK.out.res.c4; have f0 := HK.out.res.fr 0; have f1 := HK.out.res.fr 1; have f2 := HK.out.res.fr 2; have f3 := HK.out.res.fr 3; have f4 := HK.out.res.fr 4; have HS := Lib.hid (HK.out.res.set 0 0 0 0 (.slice none 0 0)); have z0 := HS.out.c0; have z1 := HS.out.c1; have z2 := HS.out.c2; have z3 := HS.out.c3; have z4 := HS.out.c4)
    exact bodyPost_ret (v := .tuple #[A5 0 0 0 0 (.slice none 0 0), .int .i64 E]) (by simp [results, Tryd.results8, go_sem, z0, z1, z2, z3, z4]) rfl (retE_no _ (st5_below _ _ _ _ _ (by omega) HK.out.c.bel))
  have h0 : pkT A B = 0 := by omega
  rw [h0] at HTw
  have hl4 := (ck_good (twoE_ok h0).1).len4
  have hl5 := (ck_good (twoE_ok h0).2.1).len4
  by_cases h2 : A.z.length = B.z.length
  rotate_left
  · have hE : pkE A B = 11 := by unfold pkE; rw [if_pos h0, if_neg h2]
    rw [show pkV A B = Ar.no from orNo_no (by rw [hE]; decide), hE]
    have k1 : ((A.z.length : Int) != (B.z.length : Int)) = true := by rw [bne_iff_ne]; omega
    clear h0 h1 h2 hE
    go_enter Tryd.func8, Tryd.ntmps8
    go_wp2_with (go_at_call 22; (with_reducible refine (HTw.out _ HK.out.c.lay HK.out.c.rdnA HK.out.c.rdnB).mono ?_); rintro e w1 ⟨rfl, hb⟩; have HK2 := Lib.hid (HK.out.next hb); clear HK x0 x1 x2 x3 x4 y0 y1 y2 y3 y4; have HK := HK2; clear HK2; have x0 := HK.out.c.boxA.c0; have x1 := HK.out.c.boxA.c1; have x2 := HK.out.c.boxA.c2; have x3 := HK.out.c.boxA.c3; have x4 := HK.out.c.boxA.c4; have y0 := HK.out.c.boxB.c0; have y1 := HK.out.c.boxB.c1; have y2 := HK.out.c.boxB.c2; have y3 := HK.out.c.boxB.c3; have y4 := HK.out.c.boxB.c4; clear hb; have y0 := HK.out.res.c0; have y1 := HK.out.res.c1; have y2 := HK.out.res.c2; have y3 := HK.out.res.c3; have y4 := HK.out.res.c4; have f0 := HK.out.res.fr 0; have f1 := HK.out.res.fr 1; have f2 := HK.out.res.fr 2; have f3 := HK.out.res.fr 3; have f4 := HK.out.res.fr 4; have HS := Lib.hid (HK.out.res.set 0 0 0 0 (.slice none 0 0)); have z0 := HS.out.c0; have z1 := HS.out.c1; have z2 := HS.out.c2; have z3 := HS.out.c3; have z4 := HS.out.c4)
    exact bodyPost_ret (v := .tuple #[A5 0 0 0 0 (.slice none 0 0), .int .i64 11]) (by simp [results, Tryd.results8, go_sem, z0, z1, z2, z3, z4]) rfl (retE_no _ (st5_below _ _ _ _ _ (by omega) HK.out.c.bel))
  have hE : pkE A B = 0 := by unfold pkE; rw [if_pos h0, if_pos h2]
  rw [show pkV A B = vecA B.k (pkZ A.z B.z) from orNo_yes hE, hE]
  have k1 : ((A.z.length : Int) != (B.z.length : Int)) = false := by simp [h2]
  have HMk : Hid (∀ W u, RdI W.heap.size W u (pkZ A.z B.z) → Ru.NilC u → Calls Tryd.prog 23 #[.int .i64 B.k, u] W fun e w' => ∃ q c, e = .returned (A5 B.k 1 (pkZ A.z B.z).length 0 (.slice q (pkZ A.z B.z).length c)) ∧ RdN W.heap.size w' (.slice q (pkZ A.z B.z).length c) (pkZ A.z B.z) ∧ Below W.heap.size W w') := fun W u g2 g3 => by
    have hp := pkZ_le A.z B.z
    exact vec_lit g2 g3 (by omega)
  have HSn := Lib.hid (fun j (hj : j < A.z.length) => pkZ_take (m := A.z) (v := B.z) h2 hj)
  have HPl : Hid (∀ j, (pkZ (A.z.take j) (B.z.take j)).length ≤ 1000) := fun j => by have := pkZ_le (A.z.take j) (B.z.take j); rw [List.length_take] at this; omega
  have HZe : Hid (pkZ (A.z.take A.z.length) (B.z.take A.z.length) = pkZ A.z B.z) := by unfold Hid; rw [List.take_length, List.take_of_length_le (by omega)]
  have HLb := Lib.hid h2
  clear h0 h1 h2 hE
  go_enter Tryd.func8, Tryd.ntmps8
  go_wp2_with (go_at_call 22; (with_reducible refine (HTw.out _ HK.out.c.lay HK.out.c.rdnA HK.out.c.rdnB).mono ?_); rintro e w1 ⟨rfl, hb⟩; have HK2 := Lib.hid (HK.out.next hb); clear HK x0 x1 x2 x3 x4 y0 y1 y2 y3 y4; have HK := HK2; clear HK2; have x0 := HK.out.c.boxA.c0; have x1 := HK.out.c.boxA.c1; have x2 := HK.out.c.boxA.c2; have x3 := HK.out.c.boxA.c3; have x4 := HK.out.c.boxA.c4; have y0 := HK.out.c.boxB.c0; have y1 := HK.out.c.boxB.c1; have y2 := HK.out.c.boxB.c2; have y3 := HK.out.c.boxB.c3; have y4 := HK.out.c.boxB.c4; clear hb)
  have HK0 : Hid (K27 w A (.slice p A.z.length cap) B (.slice q B.z.length cap') (.slice none 0 0) (pkZ (A.z.take 0) (B.z.take 0)) w1) := ⟨HK.out, by simpa [pkZ] using ins_nil _ _⟩
  clear HK HTw k1 x0 x1 x2 x3 x4 y0 y1 y2 y3 y4
  go_loopg [7, 8] A.z.length (fun gk s q9 wr => ∃ (j : Nat) (U : Value), j + gk = A.z.length ∧ s = U ∧ q9 = .int .i64 j ∧ K27 w A (.slice p A.z.length cap) B (.slice q B.z.length cap') U (pkZ (A.z.take j) (B.z.take j)) wr)
  case atStart => exact ⟨0, _, by omega, rfl, rfl, HK0.out⟩
  case round =>
    obtain ⟨j, s0, hjg, rfl, rfl, hk⟩ := hrel
    have HV := Lib.hid hk
    clear hk HK0
    have x4 := HV.out.m.c.boxA.c4
    cases gk with
    | zero =>
      have hjz : ¬ ((j : Int) < (A.z.length : Int)) := by omega
      have HO : Hid (RdI wr.heap.size wr u7 (pkZ A.z B.z) ∧ Ru.NilC u7) := by
        have h := (ins_new HV.out.own).rd
        have hn := ins_nilC HV.out.own
        rw [show j = A.z.length by omega, HZe.out] at h
        exact ⟨h, hn⟩
      have HK := Lib.hid HV.out.m
      clear HV HSn HPl HZe x4
      obtain ⟨Z, hZ⟩ : ∃ Z, pkZ A.z B.z = Z := ⟨_, rfl⟩
      have HZe2 : Hid (vecA B.k (pkZ A.z B.z) = ⟨B.k, 1, Z.length, 0, Z⟩) := by unfold Hid; rw [hZ]; rfl
      rw [hZ] at HMk HO
      clear hZ
      have x0 := HK.out.c.boxA.c0; have x1 := HK.out.c.boxA.c1; have x2 := HK.out.c.boxA.c2; have x3 := HK.out.c.boxA.c3; have x4 := HK.out.c.boxA.c4; have y0 := HK.out.c.boxB.c0; have y1 := HK.out.c.boxB.c1; have y2 := HK.out.c.boxB.c2; have y3 := HK.out.c.boxB.c3; have y4 := HK.out.c.boxB.c4
      obtain ⟨pz, cz, hpz, _, _, _⟩ := HO.out.1
      subst hpz
      go_wp2_with (go_at_call 23; (with_reducible refine (HMk.out _ _ HO.out.1 HO.out.2).mono ?_); rintro e w3 ⟨qq, qc, rfl, hu, hb⟩; have HU := Lib.hid hu; have hlt := HK.out.sz; have HK2 := Lib.hid (HK.out.next hb); clear hu hb HK; have HK := HK2; clear HK2; have y0 := HK.out.res.c0; have y1 := HK.out.res.c1; have y2 := HK.out.res.c2; have y3 := HK.out.res.c3; have y4 := HK.out.res.c4; have f0 := HK.out.res.fr 0; have f1 := HK.out.res.fr 1; have f2 := HK.out.res.fr 2; have f3 := HK.out.res.fr 3; have f4 := HK.out.res.fr 4; have HS := Lib.hid (HK.out.res.set B.k 1 Z.length 0 (.slice qq Z.length qc)); have z0 := HS.out.c0; have z1 := HS.out.c1; have z2 := HS.out.c2; have z3 := HS.out.c3; have z4 := HS.out.c4)
      rw [HZe2.out]
      refine bodyPost_ret (v := .tuple #[A5 B.k 1 Z.length 0 (.slice qq Z.length qc), .int .i64 0]) (by simp [results, Tryd.results8, go_sem, z0, z1, z2, z3, z4]) rfl ?_
      exact ⟨_, rfl, (HU.out.st5 (by omega) _ _ _ _ _).mono (by omega), st5_below _ _ _ _ _ (by omega) HK.out.c.bel⟩
    | succ g2 =>
      have hjz : (j : Int) < (A.z.length : Int) := by omega
      have hj : j < A.z.length := by omega
      have hjb : j < B.z.length := by have := HLb.out; omega
      have hwi : IntKind.i64.wrap ((j : Int) + 1) = (j : Int) + 1 := by rw [IntKind.wrap_i64]; omega
      obtain ⟨bA, oA, hpA, _, hcA⟩ := HV.out.m.c.rdnA.cells (by intro e; rw [e] at hj; simp at hj)
      subst hpA
      have hxc := hcA j hj
      have HSq := Lib.hid (HSn.out j hj)
      rw [show A.z.getD j 0 = A.z[j] by rw [List.getD_eq_getElem?_getD, List.getElem?_eq_getElem hj]; rfl, show B.z.getD j 0 = B.z[j] by rw [List.getD_eq_getElem?_getD, List.getElem?_eq_getElem hjb]; rfl] at HSq
      clear hcA
      generalize A.z[j] = x at hxc HSq
      have y4 := HV.out.m.c.boxB.c4
      have hsz : w.heap.size + 3 ≤ wr.heap.size := HV.out.m.sz
      by_cases hx : x = 0
      · have k2 : (x != 0) = false := by simpa using hx
        rw [if_pos hx] at HSq
        have HV2 : Hid (K27 w A (.slice (some ⟨bA, oA, none⟩) A.z.length cap) B (.slice q B.z.length cap') u7 (pkZ (A.z.take (j + 1)) (B.z.take (j + 1))) wr) := by unfold Hid; rw [HSq.out]; exact HV.out
        clear hx
        go_wp2_with fail
        go_roundg g2
        case measure => omega
        case rel => exact ⟨j + 1, _, by omega, rfl, by go_num, HV2.out⟩
      · have k2 : (x != 0) = true := by simpa using hx
        rw [if_neg hx] at HSq
        clear hx
        obtain ⟨bB, oB, hpB, _, hcB⟩ := HV.out.m.c.rdnB.cells (by intro e; rw [e] at hjb; simp at hjb)
        subst hpB
        have hyc := hcB j hjb
        clear hcB
        generalize B.z[j] = c at hyc HSq
        have hjbi : (j : Int) < (B.z.length : Int) := by omega
        have hlen : (pkZ (A.z.take j) (B.z.take j)).length + 1 ≤ 1000000 := by have := HPl.out j; omega
        go_wp2_with (at_builtin; refine wpList_app1 (by simp [Region.wanted]) _ _ rfl (w.heap.size + 3) _ (pkZ (A.z.take j) (B.z.take j)) rfl HV.out.own c rfl hlen hsz ?_; intro u2 w2 hu2 hb2; have HV2 := Lib.hid (HV.out.step HW3.out hu2 hb2); clear hu2 hb2)
        rw [← HSq.out] at HV2
        go_roundg g2
        case measure => omega
        case rel => exact ⟨j + 1, _, by omega, rfl, by go_num, HV2.out⟩

/-- The places set so far: those whose place is below i. -/
def gzf (F : Nat → Nat) (i t : Nat) : Value := if F t < i then .int .i64 (F t) else .int .i64 0
def rkN (z : List Int) (i k : Nat) : Nat := (List.range k).countP (rkP z i)
theorem rkN_le (z : List Int) (i k : Nat) : rkN z i k ≤ k := by unfold rkN; have := List.countP_le_length (p := rkP z i) (l := List.range k); simpa using this
theorem rkN_succ (z : List Int) (i k : Nat) : rkN z i (k + 1) = if rkP z i k then rkN z i k + 1 else rkN z i k := by
  unfold rkN
  rw [List.range_succ, List.countP_append]
  by_cases h : rkP z i k = true
  · simp [h]
  · simp [h]
/-- The sorted places as a function, and where each one stands. -/
theorem grS_rank0 (z : List Int) (h0 : 0 < z.length) : ∃ F : Nat → Nat, (∀ t, t < z.length → F t < z.length ∧ (grS z).getD t 0 = (F t : Int)) ∧ (∀ i, i < z.length → rkN z i z.length < z.length ∧ ∀ t, t < z.length → (F t = i ↔ t = rkN z i z.length)) := by
  obtain ⟨n, hn⟩ : ∃ n, z.length = n + 1 := ⟨z.length - 1, by omega⟩
  have hb := grS_asc z hn
  have hg : grS z = (Sort.insertionSort (ltOf (cfF z)) (Array.ofFn (fun i : Fin (n + 1) => i)) 0 (n + 1)).toList.map fun i => (i.val : Int) := by unfold grS; rw [hn]
  generalize hd : Sort.insertionSort (ltOf (cfF z)) (Array.ofFn (fun i : Fin (n + 1) => i)) 0 (n + 1) = d at hb hg
  have hds : d.size = n + 1 := by rw [← hd, insSort_size]; simp
  clear hd
  have ha : Asc (ltZ z) (fun t => d[t]!) 0 (n + 1) := hb.1
  rw [hn]
  refine ⟨fun t => (d[t]!).val, fun t ht => ⟨(d[t]!).isLt, ?_⟩, fun i hi => ?_⟩
  · show _ = ((d[t]!).val : Int)
    rw [hg, List.getD_eq_getElem?_getD, List.getElem?_map, Array.getElem?_toList, getElem!_pos d t (by omega), Array.getElem?_eq_getElem (by omega)]
    rfl
  · obtain ⟨p, hp, e⟩ := asc_onto ha hi
    have hr := asc_rank ha hp
    have e' : (d[p]!).val = i := e
    have hr2 : rkN z i (n + 1) = p := by unfold rkN; rw [← e']; exact hr
    rw [hr2]
    refine ⟨hp, fun t ht => ⟨fun h => ?_, fun h => by rw [h]; exact e'⟩⟩
    have hr3 := asc_rank ha ht
    have h' : (d[t]!).val = i := h
    have : rkN z i (n + 1) = t := by unfold rkN; rw [← h']; exact hr3
    omega
theorem grS_rank (z : List Int) : ∃ F : Nat → Nat, (∀ t, t < z.length → F t < z.length ∧ (grS z).getD t 0 = (F t : Int)) ∧ (∀ i, i < z.length → rkN z i z.length < z.length ∧ ∀ t, t < z.length → (F t = i ↔ t = rkN z i z.length)) := by
  by_cases h : 0 < z.length
  · exact grS_rank0 z h
  · exact ⟨fun _ => 0, fun t ht => by omega, fun i hi => by omega⟩
theorem gzf_next {w : World} {g n i p : Nat} {F : Nat → Nat} (h : w.rowIs g 2 n (gzf F i)) (hF : ∀ t, t < n → (F t = i ↔ t = p)) : (w.setCell ⟨g, p, none⟩ (.int .i64 (i : Int))).rowIs g 2 n (gzf F (i + 1)) := by
  refine (h.set p _).congr fun t ht => ?_
  show (if t = p then Value.int .i64 (i : Int) else gzf F i t) = gzf F (i + 1) t
  unfold gzf
  by_cases e : t = p
  · have := (hF t ht).2 e
    rw [if_pos e, if_pos (by omega), this]
  · have hne : F t ≠ i := fun h2 => e ((hF t ht).1 h2)
    rw [if_neg e]
    by_cases h3 : F t < i
    · rw [if_pos h3, if_pos (by omega)]
    · rw [if_neg h3, if_neg (by omega)]
set_option maxRecDepth 100000 in
set_option maxHeartbeats 16000000 in
theorem rgrade_any8 (A : Ar) (v : Value) (w : World) (hw : Ru.Lay w) (hv : RdI w.heap.size w v A.z) (hl : A.z.length ≤ 100000) :
    Calls Tryd.prog 10 #[A5 A.k A.r A.a A.b v] w (RetE (grV A) (grE A) w) := by
  have HFa : Hid (∀ W, RdI W.heap.size W v A.z → Calls Tryd.prog 29 #[A5 A.k A.r A.a A.b v, .int .i64 1] W fun e w' => e = .returned (.int .i64 (grE A)) ∧ Below W.heap.size W w') := fun W h => rone_any8 A 1 v W h (by omega)
  have HK := Lib.hid (MK1.new (A := A) hw hv)
  have HW3 := Lib.hid hw.size
  have x0 := HK.out.box.c0; have x1 := HK.out.box.c1; have x2 := HK.out.box.c2; have x3 := HK.out.box.c3; have x4 := HK.out.box.c4
  obtain ⟨p, cap, rfl, _, _, _⟩ := hv
  clear hw
  by_cases h1 : grE A ≠ 0
  · rw [show grV A = Ar.no from orNo_no h1]
    generalize grE A = E at h1 HFa ⊢
    have k1 : (E != 0) = true := by simpa using h1
    clear h1
    go_enter Tryd.func10, Tryd.ntmps10
    go_wp2_with (go_at_call 29; (with_reducible refine (HFa.out _ HK.out.rdn).mono ?_); rintro e w1 ⟨rfl, hb⟩; have HK2 := Lib.hid (HK.out.next hb); clear HK x0 x1 x2 x3 x4; have HK := HK2; clear HK2; have x0 := HK.out.box.c0; have x1 := HK.out.box.c1; have x2 := HK.out.box.c2; have x3 := HK.out.box.c3; have x4 := HK.out.box.c4; clear hb; have y0 := HK.out.res.c0; have y1 := HK.out.res.c1; have y2 := HK.out.res.c2; have y3 := HK.out.res.c3; have y4 := HK.out.res.c4; have f0 := HK.out.res.fr 0; have f1 := HK.out.res.fr 1; have f2 := HK.out.res.fr 2; have f3 := HK.out.res.fr 3; have f4 := HK.out.res.fr 4; have HS := Lib.hid (HK.out.res.set 0 0 0 0 (.slice none 0 0)); have z0 := HS.out.c0; have z1 := HS.out.c1; have z2 := HS.out.c2; have z3 := HS.out.c3; have z4 := HS.out.c4)
    exact bodyPost_ret (v := .tuple #[A5 0 0 0 0 (.slice none 0 0), .int .i64 E]) (by simp [results, Tryd.results10, go_sem, z0, z1, z2, z3, z4]) rfl (retE_no _ (st5_below _ _ _ _ _ (by omega) HK.out.bel))
  have h0 : grE A = 0 := by omega
  have hl4 := (ck_good (oneF_ok h0).1).len4
  rw [show grV A = ⟨1, 1, (grS A.z).length, 0, grS A.z⟩ from orNo_yes h0, h0]
  rw [h0] at HFa
  obtain ⟨F, hF1, hF2⟩ := grS_rank A.z
  have HF1 := Lib.hid hF1
  have HF2 := Lib.hid hF2
  have HGl := Lib.hid (grS_len A.z)
  have HVe : Hid (∀ W u, RdI W.heap.size W u (grS A.z) → Ru.NilC u → Calls Tryd.prog 23 #[.int .i64 1, u] W fun e w' => ∃ q c, e = .returned (A5 1 1 (grS A.z).length 0 (.slice q (grS A.z).length c)) ∧ RdN W.heap.size w' (.slice q (grS A.z).length c) (grS A.z) ∧ Below W.heap.size W w') := fun W u g2 g3 => vec_lit g2 g3 (by rw [grS_len]; omega)
  have HEnd : Hid (∀ (W : World) g, W.rowIs g 2 A.z.length (gzf F A.z.length) → RdI W.heap.size W (.slice (some ⟨g, 0, none⟩) A.z.length A.z.length) (grS A.z)) := fun W g h => by
    refine ⟨_, _, by rw [grS_len], by rw [grS_len]; exact Nat.le_refl _, by omega, fun _ => ⟨g, 0, rfl, h.lt, fun j hj => ?_⟩⟩
    rw [grS_len] at hj
    rw [Nat.zero_add, h.cell hj]
    unfold gzf
    obtain ⟨e1, e2⟩ := hF1 j hj
    rw [if_pos e1, ← e2, List.getD_eq_getElem?_getD, List.getElem?_eq_getElem (by rw [grS_len]; exact hj)]
    rfl
  obtain ⟨i0, hi, hz0, hz1, hz2⟩ := info_parts info64
  have hmk := fun (W : World) => run_make (P := Tryd.prog) W 23 2 i0 (.int .i64 0) Tryd.underlying23 hi hz0 .i64 .i64 A.z.length A.z.length (by omega) (by omega) (by rw [hz2]; omega) (by omega)
  have hmk2 : ∀ W, _ := fun W => by have h := hmk W; rw [Int.toNat_natCast, hz1, Nat.mul_one] at h; exact h
  clear hmk h0 h1 hF1 hF2
  have HR0 : Hid (∀ W : World, (W.alloc (.cells (madeCells (Value.int .i64 0).cells A.z.length) 2)).rowIs W.heap.size 2 A.z.length (gzf F 0)) := fun W => (World.rowIs_made W (.int .i64 0) A.z.length 2).congr fun i _ => by unfold gzf; rw [if_neg (by omega)]
  go_enter Tryd.func10, Tryd.ntmps10
  go_upto_region 5 with (go_at_call 29; (with_reducible refine (HFa.out _ HK.out.rdn).mono ?_); rintro e w1 ⟨rfl, hb⟩; have HK2 := Lib.hid (HK.out.next hb); clear HK x0 x1 x2 x3 x4; have HK := HK2; clear HK2; have x0 := HK.out.box.c0; have x1 := HK.out.box.c1; have x2 := HK.out.box.c2; have x3 := HK.out.box.c3; have x4 := HK.out.box.c4; clear hb)
  clear hmk2 HFa
  obtain ⟨g, hg⟩ : ∃ g, g = w1.heap.size := ⟨_, rfl⟩
  have HK0 : Hid (MK1 w A (.slice p A.z.length cap) (w1.alloc (.cells (madeCells #[.int .i64 0] A.z.length) 2)) ∧ (w1.alloc (.cells (madeCells #[.int .i64 0] A.z.length) 2)).rowIs g 2 A.z.length (gzf F 0)) := ⟨HK.out.next (bel1 _ _), by rw [hg]; exact HR0.out w1⟩
  have HG : Hid (w.heap.size + 2 ≤ g) := by unfold Hid; rw [hg]; exact HK.out.sz
  rw [← hg]
  clear HR0 HK x0 x1 x2 x3 x4
  generalize hW2 : w1.alloc (.cells (madeCells #[.int .i64 0] A.z.length) 2) = W2 at HK0 ⊢
  clear hW2 hg hz0 hz1 hz2 hi
  have HK := Lib.hid HK0.out.1
  go_wp2_with fail
  go_loopg [6] A.z.length (fun gk vi wr => ∃ (i : Nat), i + gk = A.z.length ∧ vi = .int .i64 i ∧ MK1 w A (.slice p A.z.length cap) wr ∧ wr.rowIs g 2 A.z.length (gzf F i))
  case atStart => exact ⟨0, by omega, rfl, HK0.out.1, HK0.out.2⟩
  case round =>
    obtain ⟨i, hig, rfl, hk, hr⟩ := hrel
    clear HK0 HK
    have HK := Lib.hid hk
    have HR := Lib.hid hr
    clear hk hr
    have x0 := HK.out.box.c0; have x1 := HK.out.box.c1; have x2 := HK.out.box.c2; have x3 := HK.out.box.c3; have x4 := HK.out.box.c4
    cases gk with
    | zero =>
      have hiz : ¬ ((i : Int) < (A.z.length : Int)) := by omega
      have HO : Hid (RdI wr.heap.size wr (.slice (some ⟨g, 0, none⟩) A.z.length A.z.length) (grS A.z)) := HEnd.out wr g (by have h := HR.out; rwa [show i = A.z.length by omega] at h)
      clear HR HF1 HF2 HEnd
      clear HGl
      obtain ⟨Z, hZ⟩ : ∃ Z, grS A.z = Z := ⟨_, rfl⟩
      rw [hZ] at HO HVe
      have HZ := Lib.hid hZ
      clear hZ
      go_wp2_with (go_at_call 23; (with_reducible refine (HVe.out _ _ HO.out (nil_some _ _ _)).mono ?_); rintro e w3 ⟨qq, qc, rfl, hu, hb⟩; have HU := Lib.hid hu; have hlt := HK.out.sz; have HK2 := Lib.hid (HK.out.next hb); clear HK x0 x1 x2 x3 x4; have HK := HK2; clear HK2; have x0 := HK.out.box.c0; have x1 := HK.out.box.c1; have x2 := HK.out.box.c2; have x3 := HK.out.box.c3; have x4 := HK.out.box.c4; clear hu hb; have y0 := HK.out.res.c0; have y1 := HK.out.res.c1; have y2 := HK.out.res.c2; have y3 := HK.out.res.c3; have y4 := HK.out.res.c4; have f0 := HK.out.res.fr 0; have f1 := HK.out.res.fr 1; have f2 := HK.out.res.fr 2; have f3 := HK.out.res.fr 3; have f4 := HK.out.res.fr 4; have HS := Lib.hid (HK.out.res.set 1 1 Z.length 0 (.slice qq Z.length qc)); have z0 := HS.out.c0; have z1 := HS.out.c1; have z2 := HS.out.c2; have z3 := HS.out.c3; have z4 := HS.out.c4)
      refine bodyPost_ret (v := .tuple #[A5 1 1 Z.length 0 (.slice qq Z.length qc), .int .i64 0]) (by simp [results, Tryd.results10, go_sem, z0, z1, z2, z3, z4]) rfl ?_
      rw [HZ.out]
      exact ⟨_, rfl, (HU.out.st5 (by omega) _ _ _ _ _).mono (by omega), st5_below _ _ _ _ _ (by omega) HK.out.bel⟩
    | succ g1 =>
      have hiz : (i : Int) < (A.z.length : Int) := by omega
      have hi : i < A.z.length := by omega
      have hwi : IntKind.i64.wrap ((i : Int) + 1) = (i : Int) + 1 := by rw [IntKind.wrap_i64]; omega
      go_wp2_with fail
      go_loopg [7, 8] A.z.length (fun gk vt vk wr => ∃ (k : Nat), k + gk = A.z.length ∧ vt = .int .i64 (rkN A.z i k) ∧ vk = .int .i64 k ∧ MK1 w A (.slice p A.z.length cap) wr ∧ wr.rowIs g 2 A.z.length (gzf F i))
      case atStart => exact ⟨0, by omega, rfl, rfl, HK.out, HR.out⟩
      case round =>
        clear HK HR x0 x1 x2 x3 x4
        obtain ⟨k, hkg, rfl, rfl, hk, hr⟩ := hrel
        have HK := Lib.hid hk
        have HR := Lib.hid hr
        clear hk hr
        have x4 := HK.out.box.c4
        cases gk with
        | zero =>
          have hkz : ¬ ((k : Int) < (A.z.length : Int)) := by omega
          have hke : k = A.z.length := by omega
          obtain ⟨h1, h2⟩ := HF2.out i hi
          rw [hke]
          have HNx : Hid ((wr.setCell ⟨g, rkN A.z i A.z.length, none⟩ (.int .i64 (i : Int))).rowIs g 2 A.z.length (gzf F (i + 1))) := gzf_next HR.out h2
          have hyc := HR.out.cell h1
          have hyf := HR.out.frozen (rkN A.z i A.z.length)
          have hkz2 : ((rkN A.z i A.z.length : Nat) : Int) < (A.z.length : Int) := by omega
          have HKn : Hid (MK1 w A (.slice p A.z.length cap) (wr.setCell ⟨g, rkN A.z i A.z.length, none⟩ (.int .i64 (i : Int)))) := HK.out.far ((Below.refl _ _).setCell (p := ⟨g, rkN A.z i A.z.length, none⟩) HG.out _) (HK.out.lay.below HW3.out ((Below.refl _ _).setCell (p := ⟨g, rkN A.z i A.z.length, none⟩) (by have := HG.out; show w.heap.size ≤ g; omega) _))
          clear h2 hke HR HK HEnd HVe HF1 HF2
          generalize rkN A.z i A.z.length = r at h1 HNx hyc hyf hkz2 HKn ⊢
          generalize gzf F i r = y at hyc
          go_wp2_with fail
          go_roundg g1
          case measure => omega
          case rel => exact ⟨i + 1, by omega, by go_num, HKn.out, HNx.out⟩
        | succ g2 =>
          have hkz : (k : Int) < (A.z.length : Int) := by omega
          have hk : k < A.z.length := by omega
          have hwk : IntKind.i64.wrap ((k : Int) + 1) = (k : Int) + 1 := by rw [IntKind.wrap_i64]; omega
          obtain ⟨bA, oA, hpA, _, hcA⟩ := HK.out.rdn.cells (by intro e; rw [e] at hi; simp at hi)
          subst hpA
          have hxc := hcA k hk
          have hyc := hcA i hi
          have hR := rkN_succ A.z i k
          unfold rkP at hR
          rw [show A.z.getD k 0 = A.z[k] by rw [List.getD_eq_getElem?_getD, List.getElem?_eq_getElem hk]; rfl, show A.z.getD i 0 = A.z[i] by rw [List.getD_eq_getElem?_getD, List.getElem?_eq_getElem hi]; rfl] at hR
          have hrle := rkN_le A.z i k
          clear hcA
          have HKd : Hid (∀ n, MK1 w A (.slice (some ⟨bA, oA, none⟩) A.z.length cap) (wr.drewN n) ∧ (wr.drewN n).rowIs g 2 A.z.length (gzf F i)) := fun n => ⟨HK.out.next (below_drewN (Below.refl _ _) n), HR.out⟩
          generalize A.z[k] = x at hxc hR
          generalize A.z[i] = y at hyc hR
          have HRk := Lib.hid hR
          clear hR HEnd HVe HF1 HF2 HR HK
          have hrw : IntKind.i64.wrap ((rkN A.z i k : Int) + 1) = (rkN A.z i k : Int) + 1 := by rw [IntKind.wrap_i64]; omega
          by_cases c1 : x < y
          · have q1 : decide (x < y) = true := decide_eq_true c1
            have HC : Hid (rkN A.z i (k + 1) = rkN A.z i k + 1) := by unfold Hid; rw [HRk.out]; simp [c1]
            clear HRk c1
            generalize rkN A.z i k = r at hrle hrw HC ⊢
            go_wp2_with fail
            go_quiet (fail)
            go_wp2_with fail
            go_roundg g2
            case measure => omega
            case rel => exact ⟨k + 1, by omega, by rw [HC.out]; first | rfl | go_num, by go_num, (HKd.out _).1, (HKd.out _).2⟩
          · have q1 : decide (x < y) = false := decide_eq_false c1
            by_cases c2 : k < i
            · have q2 : decide ((k : Int) < (i : Int)) = true := decide_eq_true (by omega)
              have q2n : decide (k < i) = true := decide_eq_true c2
              by_cases c3 : x = y
              · have q3 : (x == y) = true := by simpa using c3
                have HC : Hid (rkN A.z i (k + 1) = rkN A.z i k + 1) := by unfold Hid; rw [HRk.out]; simp [c2, c3]
                clear HRk c1 c2 c3
                generalize rkN A.z i k = r at hrle hrw HC ⊢
                go_wp2_with fail
                go_quiet (fail)
                go_wp2_with fail
                go_roundg g2
                case measure => omega
                case rel => exact ⟨k + 1, by omega, by rw [HC.out]; first | rfl | go_num, by go_num, (HKd.out _).1, (HKd.out _).2⟩
              · have q3 : (x == y) = false := by simpa using c3
                have HC : Hid (rkN A.z i (k + 1) = rkN A.z i k + 0) := by unfold Hid; rw [HRk.out]; simp [c1, c2, c3]
                clear HRk c1 c2 c3
                generalize rkN A.z i k = r at hrle hrw HC ⊢
                go_wp2_with fail
                go_quiet (fail)
                go_wp2_with fail
                go_roundg g2
                case measure => omega
                case rel => exact ⟨k + 1, by omega, by rw [HC.out]; rfl, by go_num, (HKd.out _).1, (HKd.out _).2⟩
            · have q2 : decide ((k : Int) < (i : Int)) = false := decide_eq_false (by omega)
              have q2n : decide (k < i) = false := decide_eq_false c2
              have HC : Hid (rkN A.z i (k + 1) = rkN A.z i k + 0) := by unfold Hid; rw [HRk.out]; simp [c1, c2]
              clear HRk c1 c2
              generalize rkN A.z i k = r at hrle hrw HC ⊢
              go_wp2_with fail
              go_quiet (fail)
              go_wp2_with fail
              go_roundg g2
              case measure => omega
              case rel => exact ⟨k + 1, by omega, by rw [HC.out]; rfl, by go_num, (HKd.out _).1, (HKd.out _).2⟩
end Go.Proofs.YtpbfbejckhbijaaDoor
