/-
  The laws' argument, opened: what is near.
-/
import Derived.Test.YtjdoglihebfamaaDoorFlowMem
import Derived.Test.YtjdoglihebfamaaDoorOpenP
namespace Go.Proofs.YtjdoglihebfamaaDoor
open Go.ChangeShapes Go.WideShapes Go.ChangeAt Go.RowKit Go.Deep
set_option linter.unusedVariables false
namespace FlowW
open FlowP
set_option maxRecDepth 100000 in
theorem open_near {W : World} {r : Reach} {b : Nat} {v : Value} (hv : Value.okWide Tryd.prog W r b 28 v) : ∃ n : Nr, v = nv n := by
  obtain ⟨m, rfl, hm, hc⟩ := OpenP.v_agg (n := 24) (ts := [5, 5, 5, 5, 5, 5, 5, 5, 5, 5, 5, 5, 5, 5, 5, 5, 5, 5, 5, 5, 5, 5, 5, 26]) (.inl ⟨_, Tryd.underlying28⟩) (by kernel_rfl) rfl (by kernel_rfl) hv
  match m, hm with
  | [e0, e1, e2, e3, e4, e5, e6, e7, e8, e9, e10, e11, e12, e13, e14, e15, e16, e17, e18, e19, e20, e21, e22, e23], _ =>
    obtain ⟨_, e, k0⟩ := hc 0 _ rfl
    obtain rfl := Option.some.inj e
    obtain ⟨x0, rfl, l0, u0⟩ := OpenP.c_int (k := .u8) (lo := 0) (hi := 255) Tryd.underlying5 rfl rfl k0
    obtain ⟨n0, rfl⟩ := Int.eq_ofNat_of_zero_le l0
    obtain ⟨_, e, k1⟩ := hc 1 _ rfl
    obtain rfl := Option.some.inj e
    obtain ⟨x1, rfl, l1, u1⟩ := OpenP.c_int (k := .u8) (lo := 0) (hi := 255) Tryd.underlying5 rfl rfl k1
    obtain ⟨n1, rfl⟩ := Int.eq_ofNat_of_zero_le l1
    obtain ⟨_, e, k2⟩ := hc 2 _ rfl
    obtain rfl := Option.some.inj e
    obtain ⟨x2, rfl, l2, u2⟩ := OpenP.c_int (k := .u8) (lo := 0) (hi := 255) Tryd.underlying5 rfl rfl k2
    obtain ⟨n2, rfl⟩ := Int.eq_ofNat_of_zero_le l2
    obtain ⟨_, e, k3⟩ := hc 3 _ rfl
    obtain rfl := Option.some.inj e
    obtain ⟨x3, rfl, l3, u3⟩ := OpenP.c_int (k := .u8) (lo := 0) (hi := 255) Tryd.underlying5 rfl rfl k3
    obtain ⟨n3, rfl⟩ := Int.eq_ofNat_of_zero_le l3
    obtain ⟨_, e, k4⟩ := hc 4 _ rfl
    obtain rfl := Option.some.inj e
    obtain ⟨x4, rfl, l4, u4⟩ := OpenP.c_int (k := .u8) (lo := 0) (hi := 255) Tryd.underlying5 rfl rfl k4
    obtain ⟨n4, rfl⟩ := Int.eq_ofNat_of_zero_le l4
    obtain ⟨_, e, k5⟩ := hc 5 _ rfl
    obtain rfl := Option.some.inj e
    obtain ⟨x5, rfl, l5, u5⟩ := OpenP.c_int (k := .u8) (lo := 0) (hi := 255) Tryd.underlying5 rfl rfl k5
    obtain ⟨n5, rfl⟩ := Int.eq_ofNat_of_zero_le l5
    obtain ⟨_, e, k6⟩ := hc 6 _ rfl
    obtain rfl := Option.some.inj e
    obtain ⟨x6, rfl, l6, u6⟩ := OpenP.c_int (k := .u8) (lo := 0) (hi := 255) Tryd.underlying5 rfl rfl k6
    obtain ⟨n6, rfl⟩ := Int.eq_ofNat_of_zero_le l6
    obtain ⟨_, e, k7⟩ := hc 7 _ rfl
    obtain rfl := Option.some.inj e
    obtain ⟨x7, rfl, l7, u7⟩ := OpenP.c_int (k := .u8) (lo := 0) (hi := 255) Tryd.underlying5 rfl rfl k7
    obtain ⟨n7, rfl⟩ := Int.eq_ofNat_of_zero_le l7
    obtain ⟨_, e, k8⟩ := hc 8 _ rfl
    obtain rfl := Option.some.inj e
    obtain ⟨x8, rfl, l8, u8⟩ := OpenP.c_int (k := .u8) (lo := 0) (hi := 255) Tryd.underlying5 rfl rfl k8
    obtain ⟨n8, rfl⟩ := Int.eq_ofNat_of_zero_le l8
    obtain ⟨_, e, k9⟩ := hc 9 _ rfl
    obtain rfl := Option.some.inj e
    obtain ⟨x9, rfl, l9, u9⟩ := OpenP.c_int (k := .u8) (lo := 0) (hi := 255) Tryd.underlying5 rfl rfl k9
    obtain ⟨n9, rfl⟩ := Int.eq_ofNat_of_zero_le l9
    obtain ⟨_, e, k10⟩ := hc 10 _ rfl
    obtain rfl := Option.some.inj e
    obtain ⟨x10, rfl, l10, u10⟩ := OpenP.c_int (k := .u8) (lo := 0) (hi := 255) Tryd.underlying5 rfl rfl k10
    obtain ⟨n10, rfl⟩ := Int.eq_ofNat_of_zero_le l10
    obtain ⟨_, e, k11⟩ := hc 11 _ rfl
    obtain rfl := Option.some.inj e
    obtain ⟨x11, rfl, l11, u11⟩ := OpenP.c_int (k := .u8) (lo := 0) (hi := 255) Tryd.underlying5 rfl rfl k11
    obtain ⟨n11, rfl⟩ := Int.eq_ofNat_of_zero_le l11
    obtain ⟨_, e, k12⟩ := hc 12 _ rfl
    obtain rfl := Option.some.inj e
    obtain ⟨x12, rfl, l12, u12⟩ := OpenP.c_int (k := .u8) (lo := 0) (hi := 255) Tryd.underlying5 rfl rfl k12
    obtain ⟨n12, rfl⟩ := Int.eq_ofNat_of_zero_le l12
    obtain ⟨_, e, k13⟩ := hc 13 _ rfl
    obtain rfl := Option.some.inj e
    obtain ⟨x13, rfl, l13, u13⟩ := OpenP.c_int (k := .u8) (lo := 0) (hi := 255) Tryd.underlying5 rfl rfl k13
    obtain ⟨n13, rfl⟩ := Int.eq_ofNat_of_zero_le l13
    obtain ⟨_, e, k14⟩ := hc 14 _ rfl
    obtain rfl := Option.some.inj e
    obtain ⟨x14, rfl, l14, u14⟩ := OpenP.c_int (k := .u8) (lo := 0) (hi := 255) Tryd.underlying5 rfl rfl k14
    obtain ⟨n14, rfl⟩ := Int.eq_ofNat_of_zero_le l14
    obtain ⟨_, e, k15⟩ := hc 15 _ rfl
    obtain rfl := Option.some.inj e
    obtain ⟨x15, rfl, l15, u15⟩ := OpenP.c_int (k := .u8) (lo := 0) (hi := 255) Tryd.underlying5 rfl rfl k15
    obtain ⟨n15, rfl⟩ := Int.eq_ofNat_of_zero_le l15
    obtain ⟨_, e, k16⟩ := hc 16 _ rfl
    obtain rfl := Option.some.inj e
    obtain ⟨x16, rfl, l16, u16⟩ := OpenP.c_int (k := .u8) (lo := 0) (hi := 255) Tryd.underlying5 rfl rfl k16
    obtain ⟨n16, rfl⟩ := Int.eq_ofNat_of_zero_le l16
    obtain ⟨_, e, k17⟩ := hc 17 _ rfl
    obtain rfl := Option.some.inj e
    obtain ⟨x17, rfl, l17, u17⟩ := OpenP.c_int (k := .u8) (lo := 0) (hi := 255) Tryd.underlying5 rfl rfl k17
    obtain ⟨n17, rfl⟩ := Int.eq_ofNat_of_zero_le l17
    obtain ⟨_, e, k18⟩ := hc 18 _ rfl
    obtain rfl := Option.some.inj e
    obtain ⟨x18, rfl, l18, u18⟩ := OpenP.c_int (k := .u8) (lo := 0) (hi := 255) Tryd.underlying5 rfl rfl k18
    obtain ⟨n18, rfl⟩ := Int.eq_ofNat_of_zero_le l18
    obtain ⟨_, e, k19⟩ := hc 19 _ rfl
    obtain rfl := Option.some.inj e
    obtain ⟨x19, rfl, l19, u19⟩ := OpenP.c_int (k := .u8) (lo := 0) (hi := 255) Tryd.underlying5 rfl rfl k19
    obtain ⟨n19, rfl⟩ := Int.eq_ofNat_of_zero_le l19
    obtain ⟨_, e, k20⟩ := hc 20 _ rfl
    obtain rfl := Option.some.inj e
    obtain ⟨x20, rfl, l20, u20⟩ := OpenP.c_int (k := .u8) (lo := 0) (hi := 255) Tryd.underlying5 rfl rfl k20
    obtain ⟨n20, rfl⟩ := Int.eq_ofNat_of_zero_le l20
    obtain ⟨_, e, k21⟩ := hc 21 _ rfl
    obtain rfl := Option.some.inj e
    obtain ⟨x21, rfl, l21, u21⟩ := OpenP.c_int (k := .u8) (lo := 0) (hi := 255) Tryd.underlying5 rfl rfl k21
    obtain ⟨n21, rfl⟩ := Int.eq_ofNat_of_zero_le l21
    obtain ⟨_, e, k22⟩ := hc 22 _ rfl
    obtain rfl := Option.some.inj e
    obtain ⟨x22, rfl, l22, u22⟩ := OpenP.c_int (k := .u8) (lo := 0) (hi := 255) Tryd.underlying5 rfl rfl k22
    obtain ⟨n22, rfl⟩ := Int.eq_ofNat_of_zero_le l22
    obtain ⟨_, e, k23⟩ := hc 23 _ rfl
    obtain rfl := Option.some.inj e
    obtain ⟨x23, rfl, l23, u23⟩ := OpenP.c_int (k := .u64) (lo := 0) (hi := 18446744073709551615) Tryd.underlying26 rfl rfl k23
    exact ⟨⟨(n0, n1), fun i => [(n2, n3), (n4, n5), (n6, n7), (n8, n9), (n10, n11), (n12, n13)].getD i (0, 0), fun i => [(n14, n15), (n16, n17), (n18, n19), (n20, n21)].getD i (0, 0), n22, x23⟩, rfl⟩
end FlowW
end Go.Proofs.YtjdoglihebfamaaDoor
