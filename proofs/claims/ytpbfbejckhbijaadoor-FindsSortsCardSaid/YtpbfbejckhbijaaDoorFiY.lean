/- The law Looks. -/
import Derived.Test.YtpbfbejckhbijaaDoorFiX
import Derived.Test.YtpbfbejckhbijaaDoorFiT
import Derived.Test.YtpbfbejckhbijaaDoorFiF
import Derived.Test.YtpbfbejckhbijaaDoorFiQ
import Derived.Test.YtpbfbejckhbijaaDoorMvKc
import Derived.Deep.DeepCutAuto
import Derived.BigQuiet
namespace Go.Proofs.YtpbfbejckhbijaaDoor
open Go.RowKit

theorem lat8 (k : Int) (z a : List Int) (m : Int) (hm : m = z.length) (hz : ck ⟨k, 1, m, 0, z⟩ = 0) (hzl : z.length ≤ 100000) (ha : a.length ≤ 400) (h : a.all (inS z.length) = true) (v u : Value) (W : World) (h0 : Ru.Lay W) (h1 : RdI W.heap.size W v z) (h2 : RdI W.heap.size W u a) :
    Calls Tryd.prog 13 #[A5 k 1 m 0 v, A5 1 1 a.length 0 u] W (RetE ⟨k, 1, (plZ z a).length, 0, plZ z a⟩ 0 W) := by
  have h3 := iat_any ⟨k, 1, m, 0, z⟩ ⟨1, 1, a.length, 0, a⟩ v u W h0 h1 h2 hzl (by show a.length ≤ _; omega)
  obtain ⟨e1, e2, _⟩ := at_vec hm hz (ints_ck ha) h
  rwa [e1, e2] at h3
theorem lat8A (A : Ar) (cA : ck A = 0) (rA : A.r = 1) (a : List Int) (ha : a.length ≤ 400) (h : a.all (inS A.z.length) = true) (v u : Value) (W : World) (h0 : Ru.Lay W) (h1 : RdI W.heap.size W v A.z) (h2 : RdI W.heap.size W u a) :
    Calls Tryd.prog 13 #[A5 A.k A.r A.a A.b v, A5 1 1 a.length 0 u] W (RetE ⟨A.k, 1, (plZ A.z a).length, 0, plZ A.z a⟩ 0 W) := by
  have hf := vec_form cA rA
  have e1 : A.a = (A.z.length : Int) := vec_ab cA rA
  have e2 : A.b = 0 := congrArg Ar.b hf
  have hc : ck ⟨A.k, 1, A.z.length, 0, A.z⟩ = 0 := by rw [← hf]; exact cA
  rw [rA, e1, e2]
  exact lat8 A.k A.z a A.z.length rfl hc (by have := (ck_good cA).len4; omega) ha h v u W h0 h1 h2
theorem plZ_all {z b : List Int} {n : Nat} (h : z.all (inS n) = true) (hb : b.all (inS z.length) = true) : (plZ z b).all (inS n) = true := by
  refine List.all_eq_true.2 fun x hx => ?_
  unfold plZ at hx
  obtain ⟨y, hy, rfl⟩ := List.mem_map.1 hx
  have h2 := inS_nat (List.all_eq_true.1 hb y hy)
  rw [List.getD_eq_getElem?_getD, List.getElem?_eq_getElem h2.2]
  exact List.all_eq_true.1 h _ (List.getElem_mem _)
end Go.Proofs.YtpbfbejckhbijaaDoor
