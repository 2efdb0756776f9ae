/- Go's stable sort (slices.SortStableFunc) of places, at any length. -/
import Derived.Test.YtpbfbejckhbijaaDoorFiP
import Derived.Test.YtpbfbejckhbijaaDoorShelf
import Derived.Deep.DeepCutAuto
namespace Go.Proofs.YtpbfbejckhbijaaDoor
open Go.RowKit Go.Sort

theorem sym_any {z : List Int} {N : Nat} {w0 : World} {blk S gb : Nat} {d0 : Array (Fin (N + 1))} (B : SBase z w0 blk S gb d0) : ∀ (K n : Nat) (d : Array (Fin (N + 1))), d.size = S → ∀ a m b, b - a ≤ K → a < m → m < b → b ≤ S → Two z (fun t => d[t]!) a m b → Calls Tryd.prog 44 #[.slice (some ⟨blk, 0, none⟩) S S, .int .i64 a, .int .i64 m, .int .i64 b, .func (.func 26) #[] #[.pointer (some ⟨gb, 0, none⟩)]] (putRow encF (Sort.ahead w0 n) blk 0 d) fun e w' => e = .returned (.tuple #[]) ∧ MgW z w0 blk S d a b w' := by
  intro K
  induction K with
  | zero => intro n d hd a m b h1 h2 h3 h4 h5; omega
  | succ K ih =>
    intro n d hd a m b h1 h2 h3 h4 h5
    by_cases c1 : m = a + 1
    · exact sym_one B n d hd a m b c1 (by omega) h4 h5
    · by_cases c2 : b = m + 1
      · exact sym_last B n d hd a m b c2 (by omega) h4 h5
      · exact sym_main B n d hd a m b (by omega) (by omega) h4 h5 fun n' d' hd' a' m' b' g1 g2 g3 g4 g5 => ih n' d' hd' a' m' b' (by omega) g2 g3 g4 g5
theorem sym_insert {z : List Int} {N : Nat} {w0 : World} {blk S gb : Nat} {d0 : Array (Fin (N + 1))} (B : SBase z w0 blk S gb d0) (n : Nat) (d : Array (Fin (N + 1))) (hd : d.size = S) (a b : Nat) (hab : a ≤ b) (hb : b ≤ S) (hr : ∀ t, a ≤ t → t < b → (d[t]!).val = t) :
    Calls Tryd.prog 43 #[.slice (some ⟨blk, 0, none⟩) S S, .int .i64 a, .int .i64 b, .func (.func 26) #[] #[.pointer (some ⟨gb, 0, none⟩)]] (putRow encF (Sort.ahead w0 n) blk 0 d) fun e w' => e = .returned (.tuple #[]) ∧ ∃ (n' : Nat) (dk : Array (Fin (N + 1))), dk.size = S ∧ Bl z (fun t => dk[t]!) a b ∧ (∀ t, t < a ∨ b ≤ t → dk[t]! = d[t]!) ∧ w' = putRow encF (Sort.ahead w0 n') blk 0 dk := by
  obtain ⟨h1, h2⟩ := insSort_bl z d hab (by omega) hr
  have hs := insSort_size (ltOf (cfF z)) d a b
  have h := Any.insertionSortCmpFunc_one Tryd.isort (encF (m := N + 1)) (fun _ => rfl) (cfF z) 26 #[.pointer (some ⟨gb, 0, none⟩)] blk 0 S a b d _ (fun _ _ => by kernel_rfl) (by rw [hd]; exact B.reads n d hd) (B.holds n hd) hab (by omega) (by have := B.small; omega)
  rw [hd] at h
  refine h.mono ?_
  rintro e w' ⟨e1, q, e2⟩
  refine ⟨e1, n + q, _, by rw [hs, hd], h1, h2, ?_⟩
  rw [e2]
  show Sort.ahead (putRow encF (putRow encF (Sort.ahead w0 n) blk 0 d) blk 0 _) q = _
  rw [← putRow_ahead]
  exact putRow_ahead_putRow encF w0 n q blk 0 d _ hs
set_option maxRecDepth 100000 in
set_option maxHeartbeats 8000000 in
theorem stable_any {z : List Int} {N : Nat} {w0 : World} {blk S gb : Nat} {d0 : Array (Fin (N + 1))} (B : SBase z w0 blk S gb d0) (h0 : ∀ t, t < S → (d0[t]!).val = t) :
    Calls Tryd.prog 35 #[.slice (some ⟨blk, 0, none⟩) S S, .int .i64 S, .func (.func 26) #[] #[.pointer (some ⟨gb, 0, none⟩)]] w0 fun e w' => e = .returned (.tuple #[]) ∧ ∃ (n : Nat) (dk : Array (Fin (N + 1))), dk.size = S ∧ Bl z (fun t => dk[t]!) 0 S ∧ w' = putRow encF (Sort.ahead w0 n) blk 0 dk := by
  have hS := B.small
  have HI := Lib.hid (fun n d hd a b h1 h2 h3 => sym_insert B n d hd a b h1 h2 h3)
  have HM := Lib.hid (fun n d hd a m b h1 h2 h3 h4 => sym_any B S n d hd a m b (by omega) h1 h2 h3 h4)
  have HB := Lib.hid B
  have H0 := Lib.hid h0
  have HW : Hid (w0 = putRow encF (Sort.ahead w0 0) blk 0 d0) := (putRow_self encF w0 blk 0 d0 B.hold).symm
  have HD := Lib.hid B.size
  clear B h0
  go_enter Tryd.func35, Tryd.ntmps35
  go_wp2_with fail
  go_loopw [7, 8] (fun va vb wr => ∃ (p n : Nat) (d : Array (Fin (N + 1))), va = .int .i64 p ∧ vb = .int .i64 ((p + 20 : Nat) : Int) ∧ p ≤ S ∧ Hid (d.size = S) ∧ Hid (∃ k, p = 20 * k ∧ ∀ j, j < k → Bl z (fun t => d[t]!) (20 * j) (20 * j + 20)) ∧ Hid (∀ t, p ≤ t → t < S → (d[t]!).val = t) ∧ Hid (wr = putRow encF (Sort.ahead w0 n) blk 0 d)) (fun va _ _ => S + 20 - (intOf va).toNat)
  case atStart => exact ⟨0, 0, d0, rfl, rfl, Nat.zero_le _, HD.out, ⟨0, rfl, fun j hj => by omega⟩, fun t _ ht => H0.out t ht, HW.out⟩
  case round =>
    clear HW HD H0
    obtain ⟨p, n, d, rfl, rfl, hp, HD, HK, HR, HW⟩ := hrel
    obtain ⟨b, hb⟩ : ∃ b, b = p + 20 := ⟨_, rfl⟩
    rw [← hb]
    by_cases hlt : b ≤ S
    · have hc := HI.out n d HD.out p b (by omega) hlt (fun t h1 h2 => HR.out t h1 (by omega))
      rw [← HW.out] at hc
      have HC := Lib.hid hc
      have kb : (b : Int) ≤ (S : Int) := by omega
      have HBq := Lib.hid hb
      have hb20 : b ≤ 100000 := by omega
      clear hc hb
      go_wp2_with (first | (go_at_call 43; refine HC.out.mono ?_; rintro e9 w9 ⟨rfl, n9, d9, q1, q2, q3, q4⟩; have HQ := Lib.hid (And.intro q1 (And.intro q2 (And.intro q3 q4))); clear q1 q2 q3 q4) | fail)
      go_roundw
      case rel =>
        obtain ⟨q1, q2, q3, q4⟩ := HQ.out
        have hb := HBq.out
        refine ⟨b, n9, d9, rfl, by go_num, hlt, q1, ?_, fun t h1 h2 => by rw [q3 t (.inr h1)]; exact HR.out t (by omega) h2, q4⟩
        obtain ⟨k, k1, k2⟩ := HK.out
        refine ⟨k + 1, by omega, fun j hj => ?_⟩
        by_cases c : j = k
        · subst c; rw [show 20 * j = p by omega, ← hb]; exact q2
        · exact (k2 j (by omega)).keep fun x x1 x2 => q3 x (.inl (by omega))
      case measure => simp [intOf]; have := HBq.out; omega
    · have hc := HI.out n d HD.out p S hp (Nat.le_refl _) (fun t h1 h2 => HR.out t h1 (by omega))
      rw [← HW.out] at hc
      have HC := Lib.hid hc
      have kb : ¬ (b : Int) ≤ (S : Int) := by omega
      have HBq := Lib.hid hb
      clear hc
      go_wp2_with (first | (go_at_call 43; refine HC.out.mono ?_; rintro e9 w9 ⟨rfl, n9, d9, q1, q2, q3, q4⟩; have HQ := Lib.hid (And.intro q1 (And.intro q2 (And.intro q3 q4))); clear q1 q2 q3 q4) | fail)
      have HS1 : Hid (Bls z (fun t => d9[t]!) 20 S) := by
        obtain ⟨q1, q2, q3, q4⟩ := HQ.out
        have hb := HBq.out
        obtain ⟨k, k1, k2⟩ := HK.out
        intro j
        rcases Nat.lt_trichotomy j k with c | c | c
        · rw [show min (j * 20) S = 20 * j by omega, show min ((j + 1) * 20) S = 20 * j + 20 by omega]
          exact (k2 j c).keep fun x x1 x2 => q3 x (.inl (by omega))
        · rw [show min (j * 20) S = p by omega, show min ((j + 1) * 20) S = S by omega]; exact q2
        · exact Bl.none z _ (by omega)
      have HD9 := Lib.hid HQ.out.1
      have HW9 := Lib.hid HQ.out.2.2.2
      clear HQ HBq HC HI HK HR HW HD kb hlt hb hp
      go_loopw [6] (fun vs wr => ∃ (bs n : Nat) (d : Array (Fin (N + 1))), vs = .int .i64 bs ∧ 20 ≤ bs ∧ bs ≤ 200000 ∧ Hid (d.size = S) ∧ Hid (Bls z (fun t => d[t]!) bs S) ∧ Hid (wr = putRow encF (Sort.ahead w0 n) blk 0 d)) (fun vs _ => S - (intOf vs).toNat)
      case atStart => exact ⟨20, n9, d9, rfl, Nat.le_refl _, by omega, HD9, HS1, HW9⟩
      case round =>
        clear HD9 HW9 HS1
        obtain ⟨bs, n1, d1, rfl, hb1, hb2, HD1, HB1, HW1⟩ := hrel
        obtain ⟨t2, ht2⟩ : ∃ t2, t2 = 2 * bs := ⟨_, rfl⟩
        have k2 : (2 : Int) * (bs : Int) = (t2 : Int) := by omega
        have k2b : (bs : Int) * 2 = (t2 : Int) := by omega
        have ht3 : t2 ≤ 400000 := by omega
        have ht4 : 40 ≤ t2 := by omega
        have HT2 := Lib.hid ht2
        clear ht2
        by_cases hlt : bs < S
        · have kb : (bs : Int) < (S : Int) := by omega
          go_wp2_with fail
          go_loopw [7, 8] (fun va vb wr => ∃ (p k n : Nat) (d : Array (Fin (N + 1))), va = .int .i64 p ∧ vb = .int .i64 ((p + t2 : Nat) : Int) ∧ p ≤ S ∧ Hid (p = k * (2 * bs)) ∧ Hid (d.size = S) ∧ Hid (Half z (fun t => d[t]!) bs S k) ∧ Hid (wr = putRow encF (Sort.ahead w0 n) blk 0 d)) (fun va _ _ => S + 1 - (intOf va).toNat)
          case atStart => exact ⟨0, 0, n1, d1, rfl, by simp, Nat.zero_le _, by show 0 = 0 * _; omega, HD1.out, Half.start HB1.out, HW1.out⟩
          case round =>
            clear HD1 HB1 HW1
            obtain ⟨p, k, n, d, rfl, rfl, hp, HP, HD, HH, HW⟩ := hrel
            obtain ⟨b, hb⟩ : ∃ b, b = p + t2 := ⟨_, rfl⟩
            obtain ⟨m, hm⟩ : ∃ m, m = p + bs := ⟨_, rfl⟩
            rw [← hb]
            have k3 : (p : Int) + (bs : Int) = (m : Int) := by omega
            have hmb : m < b := by have := HT2.out; omega
            have hpm : p < m := by omega
            have hbl : b ≤ 600000 := by omega
            have HBq := Lib.hid hb
            have HMq := Lib.hid hm
            have HEq : Hid (p = k * (2 * bs) ∧ m = k * (2 * bs) + bs ∧ b = k * (2 * bs) + 2 * bs) := by have := HP.out; have := HT2.out; exact ⟨this ▸ HP.out, by omega, by omega⟩
            by_cases hbS : b ≤ S
            · have h2 := HH.out.two (by have := HEq.out; omega)
              rw [← HEq.out.1, ← hm, show p + 2 * bs = b by have := HT2.out; omega, Nat.min_eq_left hbS] at h2
              have hc := HM.out n d HD.out p m b hpm hmb hbS (h2.1.two h2.2)
              rw [← HW.out] at hc
              have HC := Lib.hid hc
              have kc : (b : Int) ≤ (S : Int) := by omega
              clear hc h2 hb hm
              go_wp2_with (first | (go_at_call 44; refine HC.out.mono ?_; rintro e8 w8 ⟨rfl, n8, d8, q1, q2, q3⟩; have HQ := Lib.hid (And.intro q1 (And.intro q2 q3)); clear q1 q2 q3) | fail)
              go_roundw
              case rel =>
                obtain ⟨q1, q2, q3⟩ := HQ.out
                obtain ⟨e1, e2, e3⟩ := HEq.out
                refine ⟨b, k + 1, n8, d8, rfl, by go_num, hbS, ?_, q1, HH.out.next (by omega) (by rw [← e1, show p + 2 * bs = b by have := HT2.out; have := HBq.out; omega]; exact q2), q3⟩
                have := (half_eqs bs k).2.2.2
                show b = (k + 1) * (2 * bs)
                omega
              case measure => simp [intOf]; have := HBq.out; omega
            · have kc : ¬ (b : Int) ≤ (S : Int) := by omega
              by_cases hmS : m < S
              · have h2 := HH.out.two (by have := HEq.out; omega)
                rw [← HEq.out.1, ← hm, show p + 2 * bs = b by have := HT2.out; omega, Nat.min_eq_right (by omega)] at h2
                have hc := HM.out n d HD.out p m S hpm hmS (Nat.le_refl _) (h2.1.two h2.2)
                rw [← HW.out] at hc
                have HC := Lib.hid hc
                have km : (m : Int) < (S : Int) := by omega
                have HbS := Lib.hid hbS
                clear hc h2 hb hm hbS
                go_wp2_with (first | (go_at_call 44; refine HC.out.mono ?_; rintro e8 w8 ⟨rfl, n8, d8, q1, q2, q3⟩; have HQ := Lib.hid (And.intro q1 (And.intro q2 q3)); clear q1 q2 q3) | fail)
                go_roundw
                case rel =>
                  obtain ⟨q1, q2, q3⟩ := HQ.out
                  obtain ⟨e1, e2, e3⟩ := HEq.out
                  have e4 := HT2.out
                  exact ⟨t2, n8, d8, by go_num, by omega, by omega, q1, by show Bls z _ t2 S; rw [e4]; exact HH.out.end2 (by have := HbS.out; omega) (by omega) (by rw [← e1]; exact q2), q3⟩
                case measure => simp [intOf]; have := HT2.out; omega
              · have km : ¬ (m : Int) < (S : Int) := by omega
                have HmS := Lib.hid hmS
                clear hb hm hbS hmS
                go_wp2_with fail
                go_roundw
                case rel =>
                  obtain ⟨e1, e2, e3⟩ := HEq.out
                  have e4 := HT2.out
                  exact ⟨t2, n, d, by go_num, by omega, by omega, HD.out, by show Bls z _ t2 S; rw [e4]; exact HH.out.end1 (by have := HmS.out; omega) (by omega), HW.out⟩
                case measure => simp [intOf]; have := HT2.out; omega
        · have kb : ¬ (bs : Int) < (S : Int) := by omega
          have HEnd : Hid (∃ (n : Nat) (dk : Array (Fin (N + 1))), dk.size = S ∧ Bl z (fun t => dk[t]!) 0 S ∧ wr = putRow encF (Sort.ahead w0 n) blk 0 dk) := ⟨n1, d1, HD1.out, by have h := HB1.out 0; rwa [show min (0 * bs) S = 0 by omega, show min ((0 + 1) * bs) S = S by omega] at h, HW1.out⟩
          clear HD1 HB1 HW1 hlt k2 k2b HT2
          go_wp2_with fail
          go_end0
          exact ⟨rfl, HEnd.out⟩

theorem ahead_sort {z : List Int} {N : Nat} (w : World) (blk k : Nat) (d : Array (Fin (N + 1))) : putRow encF (Sort.ahead w k) blk 0 d = sortWorld encF w blk 0 k d #[] := by
  have _ := z
  rw [sortWorld_none]
  rfl
/-- The sorted places are in order. -/
theorem grS_asc {n : Nat} (z : List Int) (hz : z.length = n + 1) : Bl z (fun t => (Sort.insertionSort (ltOf (cfF z)) (Array.ofFn (fun i : Fin (n + 1) => i)) 0 (n + 1))[t]!) 0 (n + 1) := by
  have _ := hz
  refine (insSort_bl z _ (Nat.zero_le _) (by simp) fun t _ ht => ?_).1
  rw [getElem!_pos _ t (by simpa using ht)]
  simp
theorem grS_is {n : Nat} (z : List Int) (hz : z.length = n + 1) (dk : Array (Fin (n + 1))) (hd : dk.size = n + 1) (h : Bl z (fun t => dk[t]!) 0 (n + 1)) : grS z = dk.toList.map fun i => (i.val : Int) := by
  have h1 := grS_asc z hz
  unfold grS
  rw [hz]
  show (Array.toList _).map _ = _
  congr 1
  apply List.ext_getElem
  · simp [insSort_size, hd]
  · intro t g1 g2
    have ht : t < n + 1 := by simpa [hd] using g2
    have h2 := asc_one h1.1 h.1 ht
    have h3 : (Sort.insertionSort (ltOf (cfF z)) (Array.ofFn (fun i : Fin (n + 1) => i)) 0 (n + 1))[t]! = dk[t]! := h2
    rw [getElem!_pos _ t (by simpa using g1), getElem!_pos _ t (by simpa using g2)] at h3
    simpa using h3
set_option maxRecDepth 100000 in
set_option maxHeartbeats 4000000 in
theorem sort_some {n : Nat} (z : List Int) (hz : z.length = n + 1) (h20 : n + 1 ≤ 100000) (gb blk : Nat) (v : Value) (w : World) (hb : w.cell? ⟨gb, 4, none⟩ = some v) (hv : RdX [blk] w v z) (hg : gb ≠ blk) (hgl : gb < w.heap.size)
    (hr : w.rowIs blk 2 (n + 1) (zf (upZ (n + 1)) (n + 1))) :
    Calls Tryd.prog 25 #[.slice (some ⟨blk, 0, none⟩) (n + 1) (n + 1), .func (.func 26) #[] #[.pointer (some ⟨gb, 0, none⟩)]] w fun e w' => e = .returned (.tuple #[]) ∧ RdI w'.heap.size w' (.slice (some ⟨blk, 0, none⟩) (n + 1) (n + 1)) (grS z) ∧ Below blk w w' := by
  obtain ⟨d, hd⟩ : ∃ d : Array (Fin (n + 1)), d = Array.ofFn (fun i : Fin (n + 1) => i) := ⟨_, rfl⟩
  have hds : d.size = n + 1 := by rw [hd]; simp
  have hdv : ∀ t, t < n + 1 → (d[t]!).val = t := fun t ht => by
    subst hd
    rw [getElem!_pos _ t (by simpa using ht)]
    simp
  have hH : Holds encF w blk 0 d := fun j hj => by
    have hj2 : j < n + 1 := by omega
    refine ⟨?_, hr.frozen _⟩
    rw [Nat.zero_add, hr.cell hj2]
    unfold zf encF
    rw [if_pos hj2, upZ_at hj2, hdv j hj2]
  have hrd : ∀ (k : Nat) (dk : Array (Fin (n + 1))), CmpReads Tryd.prog 26 #[.pointer (some ⟨gb, 0, none⟩)] (encF (m := n + 1)) (cfF z) blk 0 (n + 1) (putRow encF (Sort.ahead w k) blk 0 dk) := fun k dk => by
    have hh : ∀ c, c ≠ blk → c < w.heap.size → (putRow encF (Sort.ahead w k) blk 0 dk).heap[c]? = w.heap[c]? := fun c h1 h2 => by rw [ahead_sort (z := z)]; exact sortWorld_heap _ _ _ _ _ _ _ h1 h2
    have hsz : w.heap.size ≤ (putRow encF (Sort.ahead w k) blk 0 dk).heap.size := by rw [ahead_sort (z := z)]; exact sortWorld_size _ _ _ _ _ _ _
    refine cmpReads_grade z hz gb blk v _ ?_ (hv.keep hsz fun c hc hl => hh c (by simpa using hc) hl) hg (by omega)
    have h := hb
    unfold World.cell? at h ⊢
    rw [hh gb hg hgl]
    exact h
  have B : SBase z w blk (n + 1) gb d := ⟨hH, hds, h20, fun k dk _ => hrd k dk, fun k dk hdk x y => by
    have h := hrd k dk 0 #[] dk hdk x y
    rw [sortWorld_none, putRow_putRow encF _ blk 0 dk dk rfl] at h
    exact h⟩
  have HSt := Lib.hid (stable_any B hdv)
  have HEnd : Hid (∀ w', (∃ (k : Nat) (dk : Array (Fin (n + 1))), dk.size = n + 1 ∧ Bl z (fun t => dk[t]!) 0 (n + 1) ∧ w' = putRow encF (Sort.ahead w k) blk 0 dk) → RdI w'.heap.size w' (.slice (some ⟨blk, 0, none⟩) (n + 1) (n + 1)) (grS z) ∧ Below blk w w') := by
    rintro w' ⟨k, dk, h1, h2, h3⟩
    have hgs := grS_is z hz dk h1 h2
    have hp := B.holds k h1
    have hl : (grS z).length = n + 1 := by rw [hgs]; simp [h1]
    have hlt := hr.lt
    subst h3
    have hbl : Below blk w (putRow encF (Sort.ahead w k) blk 0 dk) := (below_drewN (Below.refl _ _) k).trans (putRow_below encF (w.drewN k) blk 0 dk (Nat.le_refl _))
    refine ⟨⟨_, _, by rw [hl], by rw [hl]; exact Nat.le_refl _, by omega, fun _ => ⟨blk, 0, rfl, ?_, fun j hj => ?_⟩⟩, hbl⟩
    · show blk < (putRow encF _ blk 0 _).heap.size
      simpa using hlt
    · rw [hl] at hj
      have h4 := (hp j (by omega)).1
      rw [h4]
      unfold encF
      simp only [hgs, List.getElem_map, Array.getElem_toList]
      rw [getElem!_pos _ j (by omega)]
  clear hrd hH hdv hds hd B hr hv hb
  obtain ⟨M, hM⟩ : ∃ M : Nat, n + 1 = M := ⟨_, rfl⟩
  rw [hM] at h20
  have HM := Lib.hid hM
  have HSt2 : Hid (Calls Tryd.prog 35 #[.slice (some ⟨blk, 0, none⟩) M M, .int .i64 (M : Int), .func (.func 26) #[] #[.pointer (some ⟨gb, 0, none⟩)]] w fun e w' => e = .returned (.tuple #[]) ∧ Hid (RdI w'.heap.size w' (.slice (some ⟨blk, 0, none⟩) M M) (grS z) ∧ Below blk w w')) := by
    subst hM
    exact HSt.out.mono fun e w' h => ⟨h.1, HEnd.out w' h.2⟩
  have hcast : ((n : Int) + 1) = (M : Int) := by omega
  rw [show (((n + 1 : Nat)) : Nat) = M from hM]
  clear HSt HEnd hM hz hcast
  go_enter Tryd.func25, Tryd.ntmps25
  go_wp2_with (first | (go_at_call 35; refine HSt2.out.mono ?_; rintro e w1 ⟨rfl, hq⟩) | fail)
  go_end0
  exact ⟨rfl, hq.out⟩
set_option maxRecDepth 100000 in
set_option maxHeartbeats 4000000 in
theorem sort_none (gb blk : Nat) (w : World) :
    Calls Tryd.prog 25 #[.slice (some ⟨blk, 0, none⟩) 0 0, .func (.func 26) #[] #[.pointer (some ⟨gb, 0, none⟩)]] w fun e w' => e = .returned (.tuple #[]) ∧ w' = w := by
  have HIn : Hid (∀ W, Calls Tryd.prog 43 #[.slice (some ⟨blk, 0, none⟩) 0 0, .int .i64 0, .int .i64 0, .func (.func 26) #[] #[.pointer (some ⟨gb, 0, none⟩)]] W fun e w' => e = .returned (.tuple #[]) ∧ w' = W) := fun W => by
    go_enter Tryd.func43, Tryd.ntmps43
    go_wp2
    refine wp_loop_rounds 1 ?_
    rw [rounds_succ]
    go_wp2
    go_end0
    exact ⟨rfl, rfl⟩
  have HSt : Hid (∀ W, Calls Tryd.prog 35 #[.slice (some ⟨blk, 0, none⟩) 0 0, .int .i64 0, .func (.func 26) #[] #[.pointer (some ⟨gb, 0, none⟩)]] W fun e w' => e = .returned (.tuple #[]) ∧ w' = W) := fun W => by
    go_enter Tryd.func35, Tryd.ntmps35
    go_wp2
    refine wp_loop_rounds 1 ?_
    rw [rounds_succ]
    go_wp2_with (go_at_call 43; refine (HIn.out _).mono ?_; rintro e w1 ⟨rfl, rfl⟩)
    refine wp_loop_rounds 1 ?_
    rw [rounds_succ]
    go_wp2
    go_end0
    exact ⟨rfl, rfl⟩
  go_enter Tryd.func25, Tryd.ntmps25
  go_wp2_with (go_at_call 35; refine (HSt.out _).mono ?_; rintro e w1 ⟨rfl, rfl⟩)
  go_end0
  exact ⟨rfl, rfl⟩
/-- At any length. -/
theorem sort_all (z : List Int) (hs : z.length ≤ 100000) (gb blk : Nat) (v : Value) (w : World) (hb : w.cell? ⟨gb, 4, none⟩ = some v) (hv : RdX [blk] w v z) (hg : gb ≠ blk) (hgl : gb < w.heap.size)
    (hr : w.rowIs blk 2 z.length (zf (upZ z.length) z.length)) :
    Calls Tryd.prog 25 #[.slice (some ⟨blk, 0, none⟩) z.length z.length, .func (.func 26) #[] #[.pointer (some ⟨gb, 0, none⟩)]] w fun e w' => e = .returned (.tuple #[]) ∧ RdI w'.heap.size w' (.slice (some ⟨blk, 0, none⟩) z.length z.length) (grS z) ∧ Below blk w w' := by
  cases hz : z.length with
  | zero =>
    refine (sort_none gb blk w).mono ?_
    rintro e w' ⟨rfl, rfl⟩
    have : grS z = [] := by unfold grS; rw [hz]
    rw [this]
    exact ⟨rfl, ⟨_, _, rfl, Nat.le_refl _, by simp, fun h => absurd rfl h⟩, Below.refl _ _⟩
  | succ n => exact sort_some z hz (by omega) gb blk v w hb hv hg hgl (by rw [← hz]; exact hr)
end Go.Proofs.YtpbfbejckhbijaaDoor
