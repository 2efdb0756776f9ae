/- The law LatticeKnown as a walk. -/
import Derived.Test.YtfjnapmhnfjopaaLtI
import Derived.Test.YtfjnapmhnfjopaaLtQ
import Derived.Deep.RegionHeld3
namespace Go.Proofs.Ytfjnapmhnfjopaa
open Go.RowKit

def tN : List ByteArray := [⟨#[108, 111, 119]⟩, ⟨#[97, 110, 110]⟩, ⟨#[98, 111, 98]⟩]
def tU : List UInt8 := [7, 2, 4]
def aN : List ByteArray := [⟨#[97]⟩, ⟨#[98]⟩]
def r1 : List ByteArray := [⟨#[49, 48, 49]⟩, ⟨#[48, 49]⟩]
def r2 : List ByteArray := [⟨#[49, 49]⟩, ⟨#[49, 49]⟩]
def r3 : List ByteArray := [⟨#[49, 49, 49, 49]⟩, ⟨#[48, 49, 48, 49]⟩, ⟨#[48, 48, 49, 49]⟩, ⟨#[48, 48, 48, 49]⟩]
theorem k_1 : le dU 1 2 = false ∧ endF (ge dU) dU.length dU.length = 0 ∧ endF (le dU) dU.length dU.length = 3 := by decide +kernel
theorem k_2 : ck tN tU = (1, 4) := by decide +kernel
theorem k_3 : mkV aN r1 = (0, 6, [], []) ∧ mkV aN r2 = (0, 6, [], []) := by decide +kernel
theorem k_4 : mkV dN r3 = (0, 0, dN, dU) := by decide +kernel
theorem sz {l : List ByteArray} (h : (l.all fun s => decide (s.size ≤ 281474976710656)) = true) : ∀ s ∈ l, s.size ≤ 281474976710656 := fun s hs => by
  have := List.all_eq_true.1 h s hs
  simpa using this
theorem szb {l : List ByteArray} (h : (l.all fun s => decide (s.size ≤ 281474976710656)) = true) : ∀ s ∈ l, s.size ≤ 9223372036854775807 := fun s hs => by have := sz h s hs; omega

theorem q_leq (w : World) (v : Value) (hv : RdL w.heap.size w v dN dU) : Calls Try.prog 19 #[v, .int .i64 1, .int .i64 2] w fun e w' => e = .returned (.tuple #[.bool false, .int .i64 0]) ∧ Below w.heap.size w w' := by
  have := leq_ok v dN dU 1 2 w hv dGood (by decide) (by decide)
  rw [k_1.1] at this
  exact this
theorem q_bot (w : World) (v : Value) (hv : RdL w.heap.size w v dN dU) : Calls Try.prog 25 #[v] w fun e w' => e = .returned (.tuple #[.int .i64 0, .int .i64 0]) ∧ Below w.heap.size w w' := by
  have := bottom_ok v dN dU w hv dGood
  rw [k_1.2.1] at this
  exact this
theorem q_top (w : World) (v : Value) (hv : RdL w.heap.size w v dN dU) : Calls Try.prog 27 #[v] w fun e w' => e = .returned (.tuple #[.int .i64 3, .int .i64 0]) ∧ Below w.heap.size w w' := by
  have := top_ok v dN dU w hv dGood
  rw [k_1.2.2] at this
  exact this
theorem two_new {α β : Type} (f : α → Value) (g : β → Value) (w : World) (l : List α) (m : List β) (t u : TypeId) (hl : l.length ≤ 1000) (hm : m.length ≤ 1000) :
    Rd f ((w.alloc (.cells (l.map f).toArray t (0, 0))).alloc (.cells (m.map g).toArray u (0, 0))).heap.size ((w.alloc (.cells (l.map f).toArray t (0, 0))).alloc (.cells (m.map g).toArray u (0, 0))) (.slice (some ⟨w.heap.size, 0, none⟩) l.length l.length) l ∧
    Rd g ((w.alloc (.cells (l.map f).toArray t (0, 0))).alloc (.cells (m.map g).toArray u (0, 0))).heap.size ((w.alloc (.cells (l.map f).toArray t (0, 0))).alloc (.cells (m.map g).toArray u (0, 0))) (.slice (some ⟨w.heap.size + 1, 0, none⟩) m.length m.length) m ∧
    Below w.heap.size w ((w.alloc (.cells (l.map f).toArray t (0, 0))).alloc (.cells (m.map g).toArray u (0, 0))) := by
  have h1 := (rd_new f w l t (0, 0) hl).al (.cells (m.map g).toArray u (0, 0))
  have h2 := rd_new g (w.alloc (.cells (l.map f).toArray t (0, 0))) m u (0, 0) hm
  have e : (w.alloc (.cells (l.map f).toArray t (0, 0))).heap.size = w.heap.size + 1 := by simp
  rw [e] at h2
  exact ⟨h1, h2, bel2 (bel1 _ _)⟩
theorem q_chk (w : World) : Calls Try.prog 14 #[.agg #[.slice (some ⟨w.heap.size, 0, none⟩) 3 3, .slice (some ⟨w.heap.size + 1, 0, none⟩) 3 3]] ((w.alloc (.cells #[.string ⟨#[108, 111, 119]⟩, .string ⟨#[97, 110, 110]⟩, .string ⟨#[98, 111, 98]⟩] 9)).alloc (.cells #[.int .u8 7, .int .u8 2, .int .u8 4] 5))
    fun e w' => e = .returned (.tuple #[.int .i64 1, .int .i64 4]) ∧ Below w.heap.size w w' := by
  have h := two_new vs vb w tN tU 9 5 (by decide) (by decide)
  have := check_any _ tN tU _ ⟨⟨_, _, rfl, h.1, h.2.1⟩, szb (by decide +kernel)⟩
  rw [k_2] at this
  exact this.mono fun e w' ⟨h1, h2⟩ => ⟨h1, h.2.2.trans (h2.mono h.2.2.size)⟩
/-- What the calls of Make leave. -/
def MkQ (ns : List ByteArray) (up : List UInt8) (i e0 : Int) (w : World) (e : Ending) (w' : World) : Prop :=
  ∃ a n c b m d, e = .returned (.tuple #[.agg #[.slice a n c, .slice b m d], .int .i64 i, .int .i64 e0]) ∧ RdL w'.heap.size w' (.agg #[.slice a n c, .slice b m d]) ns up ∧ Below w.heap.size w w'
theorem mkQ_of {ns rows ms : List ByteArray} {vp : List UInt8} {i e0 : Int} {w w0 : World} (h : mkV ns rows = (i, e0, ms, vp)) (hb : Below w0.heap.size w0 w) {e : Ending} {w' : World} (hm : MkP ns rows w e w') : MkQ ms vp i e0 w0 e w' := by
  obtain ⟨x, rfl, hr, hb'⟩ := hm
  rw [h] at hr ⊢
  obtain ⟨⟨vn, vu, rfl, ⟨a, c, rfl, k1⟩, ⟨b, d, rfl, k2⟩⟩, hs⟩ := hr
  exact ⟨a, _, c, b, _, d, rfl, ⟨⟨_, _, rfl, ⟨a, c, rfl, k1⟩, ⟨b, d, rfl, k2⟩⟩, hs⟩, hb.trans (hb'.mono hb.size)⟩
theorem q_mk1 (w : World) : Calls Try.prog 16 #[.slice (some ⟨w.heap.size, 0, none⟩) 2 2, .slice (some ⟨w.heap.size + 1, 0, none⟩) 2 2] ((w.alloc (.cells #[.string ⟨#[97]⟩, .string ⟨#[98]⟩] 9)).alloc (.cells #[.string ⟨#[49, 48, 49]⟩, .string ⟨#[48, 49]⟩] 9))
    (MkQ [] [] 0 6 w) := by
  have h := two_new vs vs w aN r1 9 9 (by decide) (by decide)
  exact (make_any _ _ aN r1 _ h.1 h.2.1 (sz (by decide +kernel)) (szb (by decide +kernel))).mono fun e w' hm => mkQ_of k_3.1 h.2.2 hm
theorem q_mk2 (w : World) : Calls Try.prog 16 #[.slice (some ⟨w.heap.size, 0, none⟩) 2 2, .slice (some ⟨w.heap.size + 1, 0, none⟩) 2 2] ((w.alloc (.cells #[.string ⟨#[97]⟩, .string ⟨#[98]⟩] 9)).alloc (.cells #[.string ⟨#[49, 49]⟩, .string ⟨#[49, 49]⟩] 9))
    (MkQ [] [] 0 6 w) := by
  have h := two_new vs vs w aN r2 9 9 (by decide) (by decide)
  exact (make_any _ _ aN r2 _ h.1 h.2.1 (sz (by decide +kernel)) (szb (by decide +kernel))).mono fun e w' hm => mkQ_of k_3.2 h.2.2 hm
theorem q_mk3 (w : World) : Calls Try.prog 16 #[.slice (some ⟨w.heap.size, 0, none⟩) 4 4, .slice (some ⟨w.heap.size + 1, 0, none⟩) 4 4] ((w.alloc (.cells #[.string ⟨#[108, 111, 119]⟩, .string ⟨#[97, 110, 110]⟩, .string ⟨#[98, 111, 98]⟩, .string ⟨#[116, 111, 112]⟩] 9)).alloc (.cells #[.string ⟨#[49, 49, 49, 49]⟩, .string ⟨#[48, 49, 48, 49]⟩, .string ⟨#[48, 48, 49, 49]⟩, .string ⟨#[48, 48, 48, 49]⟩] 9))
    (MkQ dN dU 0 0 w) := by
  have h := two_new vs vs w dN r3 9 9 (by decide) (by decide)
  exact (make_any _ _ dN r3 _ h.1 h.2.1 (sz (by decide +kernel)) (szb (by decide +kernel))).mono fun e w' hm => mkQ_of k_4 h.2.2 hm
theorem q_same (w : World) (v u : Value) (hv : RdL w.heap.size w v dN dU) (hu : RdL w.heap.size w u dN dU) : Calls Try.prog 18 #[v, u] w fun e w' => e = .returned (.bool true) ∧ Below w.heap.size w w' := by
  have := same_any v u dN dU dN dU w hv hu
  rw [show smB dN dU dN dU = true by unfold smB; rw [decide_eq_true rfl, decide_eq_true rfl]; rfl] at this
  exact this

theorem bx_drew {w W : World} {vn vu : Value} {ns : List ByteArray} {up : List UInt8} (h : Bx w vn vu ns up W) : Bx w vn vu ns up W.drew := h.next (Below.refl _ _).drew
/-- What the region keeps. -/
theorem bx3 {w W : World} {vn vu : Value} {ns : List ByteArray} {up : List UInt8} (h : Bx w vn vu ns up W) : Bx w vn vu ns up W ∧ W.cell? ⟨w.heap.size, 0, none⟩ = some vn ∧ W.cell? ⟨w.heap.size, 1, none⟩ = some vu := ⟨h, h.x0, h.x1⟩
theorem bx3n {w W w' : World} {vn vu : Value} {ns : List ByteArray} {up : List UInt8} {p q : Prop} (h : Bx w vn vu ns up W ∧ p ∧ q) (hb : Below W.heap.size W w') : Bx w vn vu ns up w' ∧ w'.cell? ⟨w.heap.size, 0, none⟩ = some vn ∧ w'.cell? ⟨w.heap.size, 1, none⟩ = some vu := bx3 (h.1.next hb)
theorem q_same3 {w W : World} {vn vu u : Value} {p q : Prop} (h : Bx w vn vu dN dU W ∧ p ∧ q) (hu : RdL W.heap.size W u dN dU) : Calls Try.prog 18 #[.agg #[vn, vu], u] W fun e w' => e = .returned (.bool true) ∧ Below W.heap.size W w' := q_same W _ _ h.1.rd hu

set_option maxRecDepth 100000 in
set_option maxHeartbeats 8000000 in
theorem lawKnown_any (w : World) : Calls Try.prog 10 #[] w fun e w' => e = .returned (.bool true) ∧ Below w.heap.size w w' := by
  go_enter Try.func10, Try.ntmps10
  go_wp2_with fail
  refine (diamond_any w).mono ?_
  rintro e w1 ⟨v1, rfl, h1, hb1⟩
  go_wp2_with fail
  refine (q_leq w1 v1 h1).mono ?_
  rintro e w2 ⟨rfl, hb2⟩
  have H2 := Lib.hid (hb1.trans (hb2.mono hb1.size))
  clear h1 hb1 hb2
  go_wp2_with fail
  refine (diamond_any w2).mono ?_
  rintro e w3 ⟨v3, rfl, h3, hb3⟩
  go_wp2_with fail
  refine (q_bot w3 v3 h3).mono ?_
  rintro e w4 ⟨rfl, hb4⟩
  have H4 := Lib.hid (H2.out.trans ((hb3.trans (hb4.mono hb3.size)).mono H2.out.size))
  clear h3 hb3 hb4 H2
  go_wp2_with fail
  refine (diamond_any w4).mono ?_
  rintro e w5 ⟨v5, rfl, h5, hb5⟩
  go_wp2_with fail
  refine (q_top w5 v5 h5).mono ?_
  rintro e w6 ⟨rfl, hb6⟩
  have H6 := Lib.hid (H4.out.trans ((hb5.trans (hb6.mono hb5.size)).mono H4.out.size))
  clear h5 hb5 hb6 H4
  go_wp2_with fail
  refine (q_chk w6).mono ?_
  rintro e w7 ⟨rfl, hb7⟩
  have H7 := Lib.hid (H6.out.trans (hb7.mono H6.out.size))
  clear hb7 H6
  go_wp2_with fail
  refine (q_mk1 w7).mono ?_
  rintro e w8 ⟨a8, n8, c8, b8, m8, d8, rfl, h8, hb8⟩
  have H8 := Lib.hid (H7.out.trans (hb8.mono H7.out.size))
  clear hb8 h8 H7
  go_wp2_with fail
  have e8 : (w8.alloc (.cells #[.slice a8 n8 c8, .slice b8 m8 d8] 25)).heap.size = w8.heap.size + 1 := by simp
  have hb8 := bel1 w8 (.cells #[.slice a8 n8 c8, .slice b8 m8 d8] 25)
  generalize w8.alloc (.cells #[.slice a8 n8 c8, .slice b8 m8 d8] 25) = W8 at e8 hb8 ⊢
  rw [← e8]
  refine (q_mk2 W8).mono ?_
  rintro e w9 ⟨a9, n9, c9, b9, m9, d9, rfl, h9, hb9⟩
  have H9 := Lib.hid (H8.out.trans ((hb8.trans (hb9.mono hb8.size)).mono H8.out.size))
  clear hb8 hb9 h9 H8 e8
  go_wp2_with fail
  have e9 : (w9.alloc (.cells #[.slice a9 n9 c9, .slice b9 m9 d9] 25)).heap.size = w9.heap.size + 1 := by simp
  have hb9 := bel1 w9 (.cells #[.slice a9 n9 c9, .slice b9 m9 d9] 25)
  generalize w9.alloc (.cells #[.slice a9 n9 c9, .slice b9 m9 d9] 25) = W9 at e9 hb9 ⊢
  rw [← e9]
  refine (q_mk3 W9).mono ?_
  rintro e w10 ⟨a, n, c, b, m, d, rfl, h10, hb10⟩
  have H10 := Lib.hid (H9.out.trans ((hb9.trans (hb10.mono hb9.size)).mono H9.out.size))
  clear hb9 hb10 H9 e9
  have HI := Lib.hid (Bx.new h10)
  clear h10
  go_wp2_with fail
  have HX : Hid (∀ W, Bx w10 (.slice a n c) (.slice b m d) dN dU W → Below w.heap.size w W) := fun W h => H10.out.trans (h.bel.mono H10.out.size)
  clear H10
  generalize w10.alloc (.cells #[.slice a n c, .slice b m d] 25) = W10 at HI ⊢
  have hS := HI.out
  clear HI
  go_region_held3 (fun W => Bx w10 (.slice a n c) (.slice b m d) dN dU W ∧ W.cell? ⟨w10.heap.size, 0, none⟩ = some (.slice a n c) ∧ W.cell? ⟨w10.heap.size, 1, none⟩ = some (.slice b m d))
    ((first | exact bx3n (by assumption) hbn | exact bx3 (bx_drew hS)))
    (first
      | (go_at_call 41; refine (diamond_any _).mono ?_; rintro e w' ⟨vd, rfl, hvd, hbn⟩)
      | (go_at_call 18; refine (q_same3 (by assumption) hvd).mono ?_; rintro e w' ⟨rfl, hbn⟩)
      | (go_at_call 13; refine (awake_any _).mono ?_; rintro e w' ⟨rfl, hbn⟩))
  have HE := Lib.hid (HX.out _ (by assumption : Bx _ _ _ _ _ _ ∧ _ ∧ _).1)
  go_wp2_with fail
  go_ret
  exact ⟨rfl, HE.out⟩
end Go.Proofs.Ytfjnapmhnfjopaa
