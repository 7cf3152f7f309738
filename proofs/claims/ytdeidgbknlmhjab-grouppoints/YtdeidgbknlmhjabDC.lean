import Derived.Test.YtdeidgbknlmhjabDB
namespace Go.Proofs.Ytdeidgbknlmhjab
open Go.RowKit Go.Sort
variable {P : Nat} [NeZero P]

def rl1 : List Value := [.int .u64 13822214165235122497, .int .u64 13451932020343611451, .int .u64 18446744073709551614, .int .u64 18446744073709551615, .int .u64 4624529908474429119, .int .u64 4994812053365940164, .int .u64 1, .int .u64 0]
def rv1 : Value := .agg rl1.toArray
theorem rMake1_c : Gives 16 #[.int .i64 1] rv1 := fun w => (rMake1 w).mono (by rintro e w' ⟨v, rfl, hb, rfl⟩; exact ⟨_, rfl, hb, rfl⟩)

def F32_0i  : List RG.It := [⟨some 0, [], (.p 0 0), .make 0⟩]
def F32_0b  : List RG.Bl := [⟨[.int .u64 0, .int .u64 0, .int .u64 0, .int .u64 0, .int .u64 0, .int .u64 0, .int .u64 0, .int .u64 0], [.int .u64 0, .int .u64 0, .int .u64 0, .int .u64 0, .int .u64 0, .int .u64 0, .int .u64 0, .int .u64 0], some 0, none⟩]
def F32_0o  : List (Tmp × RG.SV) := []
def F32_1i  : List RG.It := [⟨some 1, [], (.v rv1), .call⟩,
  ⟨none, [(1, 0)], (.v undef), .put 0⟩]
def F32_1b  : List RG.Bl := [⟨[.int .u64 0, .int .u64 0, .int .u64 0, .int .u64 0, .int .u64 0, .int .u64 0, .int .u64 0, .int .u64 0], rl1, none, some 1⟩]
def F32_1o  : List (Tmp × RG.SV) := [(0, (.p 0 0))]
set_option maxHeartbeats 2000000 in
set_option maxRecDepth 100000 in
theorem Q3_c  : Gives 32 #[] rv1 := by
  intro w
  have hfin : (rv1 : Value) = rv1 := by
    subst_vars; rfl
  rw [← hfin]
  go_enter Try.func32, Try.ntmps32
  have hS0 := RG.St.begin w
  repeat refine wp_seq ?_
  refine RG.region_text (its := F32_0i) (bl := F32_0b) (olds := F32_0o) hS0 (RG.Reg.mk' (by kernel_rfl) trivial ⟨?_, trivial⟩) (by kernel_rfl) (by kernel_rfl) (by kernel_rfl) ?_
  · exact RG.cert_alloc 0 rfl rfl _ rfl 35 rfl (fun w => by kernel_rfl)
  intro new1 w1 hl1 hS1
  obtain ⟨j1, rfl⟩ := RG.len1 hl1
  repeat refine wp_seq ?_
  refine RG.region_text (its := F32_1i) (bl := F32_1b) (olds := F32_1o) hS1 (RG.Reg.mk' (by kernel_rfl) ⟨by kernel_rfl, trivial⟩ ⟨?_, ?_, trivial⟩) (by kernel_rfl) (by kernel_rfl) (by kernel_rfl) ?_
  · exact RG.cert_call rfl 16 #[(.int .i64 1)] rv1 rfl (fun μ a w _ _ => by kernel_rfl) (fun w _ => (rMake1_c) w)
  · exact RG.cert_put 0 rfl _ rfl 35 (.tmp 0) (.tmp 1) rfl rfl rfl (fun μ a K => K.old 0 (.p 0 0) (List.Mem.head _) (by kernel_rfl)) (fun μ a K => by have h := K.op 1 0 (List.Mem.head _) rfl; exact h) i35 rfl
  intro new2 w2 hl2 hS2
  obtain rfl := RG.len0 hl2
  refine wp_ret ?_
  refine bodyPost_ret (v := rv1) (RG.results_row hS2 0 35 rfl 0 _ rfl (by kernel_rfl) u35 i35) (by kernel_rfl) ?_
  exact ⟨_, rfl, hS2.bel.below, rfl⟩

end Go.Proofs.Ytdeidgbknlmhjab
