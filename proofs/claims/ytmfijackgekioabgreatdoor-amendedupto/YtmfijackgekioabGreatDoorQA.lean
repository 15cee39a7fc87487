import Derived.Below
import Derived.Deep.QuietTactic
import Derived.IntWalk
import Derived.Laws.BitsLemmas
import Derived.Laws.Rows
import Derived.Laws.World
import Derived.Lib.AppendZeros
import Derived.Maps.Own
import Derived.Maps.OwnSet
import Derived.OneCell
import Derived.OwnWalk
import Derived.Tactics
import Derived.WalkSmall
import GoSem.Claim
import GoSem.ClaimWide
import GoSem.Core.Value
namespace Go.Proofs.YtmfijackgekioabGreatDoor
theorem aaa:type_of% @Go.lt_of_block:=@Go.lt_of_block
theorem aab:type_of% @List.getD_eq_getElem?_getD:=@List.getD_eq_getElem?_getD
theorem aac:type_of% @List.length_append:=@List.length_append
theorem aah:type_of% @Nat.le_refl:=@Nat.le_refl
theorem aai:type_of% @if_neg:=@if_neg
theorem aaj:type_of% @if_pos:=@if_pos
theorem aak:type_of% @Go.RowKit.Below.heap_setCell:=@Go.RowKit.Below.heap_setCell
theorem aan:type_of% @List.getElem?_eq_getElem:=@List.getElem?_eq_getElem
theorem aao:type_of% @Go.IntWalk.i64_in:=@Go.IntWalk.i64_in
theorem aaq:type_of% @Nat.zero_le:=@Nat.zero_le
theorem aas:type_of% @Go.World.size_alloc:=@Go.World.size_alloc
theorem aat:type_of% @Go.cell_of_row:=@Go.cell_of_row
theorem aau:type_of% @Go.heap_setCell_same:=@Go.heap_setCell_same
theorem aav:type_of% @Go.RowKit.Below.refl:=@Go.RowKit.Below.refl
theorem aaw:type_of% @List.append_assoc:=@List.append_assoc
theorem aaA:type_of% @List.length_cons:=@List.length_cons
theorem aaC:type_of% @List.getElem?_eq_none:=@List.getElem?_eq_none
theorem aaD:type_of% @Go.below_drewN:=@Go.below_drewN
theorem aaE:type_of% @List.length_replicate:=@List.length_replicate
theorem aaF:type_of% @Go.bodyPost_ret:=@Go.bodyPost_ret
theorem aaG:type_of% @List.eq_nil_of_length_eq_zero:=@List.eq_nil_of_length_eq_zero
theorem aaH:type_of% @Option.some.inj:=@Option.some.inj
theorem aaI:type_of% @Go.frozen_of_row:=@Go.frozen_of_row
theorem aaL:type_of% @ByteArray.size_extract:=@ByteArray.size_extract
theorem aaM:type_of% @List.getElem?_append_right:=@List.getElem?_append_right
theorem aaO:type_of% @Nat.zero_add:=@Nat.zero_add
theorem aaP:type_of% @beq_eq_false_iff_ne:=@beq_eq_false_iff_ne
theorem aaQ:type_of% @Nat.lt_of_lt_of_le:=@Nat.lt_of_lt_of_le
theorem aaS:type_of% @Bool.and_eq_true:=@Bool.and_eq_true
theorem aaT:type_of% @List.take_succ_eq_append_getElem:=@List.take_succ_eq_append_getElem
theorem aaW:type_of% @decide_eq_true_eq:=@decide_eq_true_eq
theorem aaX:type_of% @Go.Lib.wpList_append_run:=@Go.Lib.wpList_append_run
theorem aa7:type_of% @List.length_take:=@List.length_take
theorem aba:type_of% @Nat.lt_or_ge:=@Nat.lt_or_ge
theorem abb:type_of% @List.nil_append:=@List.nil_append
theorem abd:type_of% @List.length_set:=@List.length_set
theorem abe:type_of% @Nat.le_trans:=@Nat.le_trans
theorem abf:type_of% @List.take_of_length_le:=@List.take_of_length_le
theorem abh:type_of% @Nat.mul_le_mul:=@Nat.mul_le_mul
theorem abj:type_of% @decide_eq_true:=@decide_eq_true
theorem abk:type_of% @Nat.mul_comm:=@Nat.mul_comm
theorem abm:type_of% @Array.length_toList:=@Array.length_toList
theorem abn:type_of% @List.getElem?_append_left:=@List.getElem?_append_left
theorem abo:type_of% @List.getElem_mem:=@List.getElem_mem
theorem abp:type_of% @List.append_nil:=@List.append_nil
theorem abq:type_of% @Go.Calls.quiet_of_same:=@Go.Calls.quiet_of_same
theorem abs:type_of% @Nat.pow_le_pow_right:=@Nat.pow_le_pow_right
theorem abt:type_of% @Nat.mul_le_mul_right:=@Nat.mul_le_mul_right
theorem abu:type_of% @Go.info_parts:=@Go.info_parts
theorem abv:type_of% @Nat.mul_assoc:=@Nat.mul_assoc
theorem abw:type_of% @List.not_mem_nil:=@List.not_mem_nil
theorem abz:type_of% @Int.eq_ofNat_of_zero_le:=@Int.eq_ofNat_of_zero_le
theorem abA:type_of% @List.mem_append:=@List.mem_append
theorem abC:type_of% @List.getElem?_map:=@List.getElem?_map
theorem abD:type_of% @Bool.false_and:=@Bool.false_and
theorem abE:type_of% @Nat.mod_eq_of_lt:=@Nat.mod_eq_of_lt
theorem abG:type_of% @List.cons_append:=@List.cons_append
theorem abH:type_of% @Go.Value.slice.injEq:=@Go.Value.slice.injEq
theorem abI:type_of% @Go.RowKit.Below.heap_alloc:=@Go.RowKit.Below.heap_alloc
theorem abJ:type_of% @List.mem_cons_self:=@List.mem_cons_self
theorem abK:type_of% @List.mem_singleton:=@List.mem_singleton
theorem abN:type_of% @decide_eq_false:=@decide_eq_false
theorem abO:type_of% @List.length_map:=@List.length_map
theorem abU:type_of% @Int.le_refl:=@Int.le_refl
theorem abV:type_of% @congrArg:=@congrArg
theorem abZ:type_of% @List.getElem?_take:=@List.getElem?_take
theorem ab2:type_of% @Go.IntKind.wrap_u8:=@Go.IntKind.wrap_u8
theorem ab3:type_of% @Go.DataW.lit.injEq:=@Go.DataW.lit.injEq
theorem ab5:type_of% @List.map_append:=@List.map_append
theorem ab6:type_of% @Go.World.size_setCell:=@Go.World.size_setCell
theorem ab7:type_of% @Go.Lit.int.injEq:=@Go.Lit.int.injEq
theorem ab9:type_of% @List.mem_cons:=@List.mem_cons
theorem aca:type_of% @List.ext_getElem:=@List.ext_getElem
theorem acb:type_of% @List.length_drop:=@List.length_drop
theorem acd:type_of% @BitVec.toNat_ofInt:=@BitVec.toNat_ofInt
theorem ace:type_of% @Bool.false_eq_true:=@Bool.false_eq_true
theorem acg:type_of% @List.length_singleton:=@List.length_singleton
theorem ach:type_of% @List.getElem?_replicate:=@List.getElem?_replicate
theorem acm:type_of% @true_and:=@true_and
theorem aco:type_of% @List.extract_eq_take_drop:=@List.extract_eq_take_drop
theorem acr:type_of% @Nat.succ_mul:=@Nat.succ_mul
theorem acs:type_of% @ByteArray.data_extract:=@ByteArray.data_extract
theorem acu:type_of% @List.mem_cons_of_mem:=@List.mem_cons_of_mem
theorem acv:type_of% @Int.mul_nonneg:=@Int.mul_nonneg
theorem acw:type_of% @Option.some.injEq:=@Option.some.injEq
theorem acx:type_of% @Go.wpList_lookup_own_ok_int:=@Go.wpList_lookup_own_ok_int
theorem acy:type_of% @Nat.add_assoc:=@Nat.add_assoc
theorem acz:type_of% @Nat.add_zero:=@Nat.add_zero
theorem acA:type_of% @Bool.eq_iff_iff:=@Bool.eq_iff_iff
theorem acB:type_of% @List.getElem_map:=@List.getElem_map
theorem acC:type_of% @Int.mul_le_mul:=@Int.mul_le_mul
theorem acD:type_of% @Int.tmod_eq_emod_of_nonneg:=@Int.tmod_eq_emod_of_nonneg
theorem acE:type_of% @List.head_eq_of_cons_eq:=@List.head_eq_of_cons_eq
theorem acF:type_of% @Array.toList_extract:=@Array.toList_extract
theorem acG:type_of% @List.getElem_range:=@List.getElem_range
theorem acH:type_of% @List.length_nil:=@List.length_nil
theorem acI:type_of% @List.map_cons:=@List.map_cons
theorem acJ:type_of% @List.map_congr_left:=@List.map_congr_left
theorem acK:type_of% @List.getElem_of_mem:=@List.getElem_of_mem
theorem acL:type_of% @Nat.mod_lt:=@Nat.mod_lt
theorem acM:type_of% @List.take_append_drop:=@List.take_append_drop
theorem acN:type_of% @Ne.symm:=@Ne.symm
theorem acO:type_of% @Go.wpList_mapUpdate_own:=@Go.wpList_mapUpdate_own
theorem acP:type_of% @Nat.pow_succ:=@Nat.pow_succ
theorem acQ:type_of% @Int.toNat_natCast:=@Int.toNat_natCast
theorem acR:type_of% @Go.Lib.wp_append_run:=@Go.Lib.wp_append_run
theorem acS:type_of% @Array.getElem?_toList:=@Array.getElem?_toList
theorem acT:type_of% @Bool.true_and:=@Bool.true_and
theorem acU:type_of% @List.drop_zero:=@List.drop_zero
theorem acV:type_of% @Nat.le_of_lt:=@Nat.le_of_lt
theorem acX:type_of% @Go.IntKind.wrap_i64:=@Go.IntKind.wrap_i64
theorem acY:type_of% @List.getElem?_set_ne:=@List.getElem?_set_ne
theorem acZ:type_of% @List.mem_of_mem_take:=@List.mem_of_mem_take
theorem ac0:type_of% @Nat.div_add_mod:=@Nat.div_add_mod
theorem ac1:type_of% @Option.getD_some:=@Option.getD_some
theorem ac2:type_of% @Go.plainElem_int:=@Go.plainElem_int
theorem ac3:type_of% @List.mem_map:=@List.mem_map
end Go.Proofs.YtmfijackgekioabGreatDoor
