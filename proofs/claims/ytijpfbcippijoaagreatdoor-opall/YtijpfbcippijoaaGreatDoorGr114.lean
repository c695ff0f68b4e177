import Derived.Test.YtijpfbcippijoaaGreatDoorAl
import Derived.Test.YtijpfbcippijoaaGreatDoorGr133
set_option maxHeartbeats 2000000
set_option maxRecDepth 100000
namespace Go.Proofs.YtijpfbcippijoaaGreatDoor
open Go.RowKit Go.Lib
theorem parseIn_8 (s:ByteArray) (hs:s.size≤1099511627776) (hne:0<s.size) (w:World) :
  Calls Tryz.prog 164 #[.string s,.int .i64 16,.int .i64 8] w fun e w'=>∃ x E,e=.returned (.tuple #[x,E])∧Below w.heap.size w w' ∧
   ((∃ v:Nat,pu 255 0 s.data.toList=some v∧x=.int .u64 v∧E=.nilIface)∨(pu 255 0 s.data.toList=none∧∃ y:Int,x=.int .u64 y∧∃ k:Int,(k=1∨k=2)∧E=.iface 197 (.int .i64 k))):=by
 have hcv:=run_bytes_of_string (P:=Tryz.prog);have ht:=size_ne s hne;have hroom:s.size≤grownCap w s.size 0 5:=grownCap_ge _ _ _ _;have hB:Below w.heap.size w (w.alloc (Obj.cells (bytesRow s (grownCap w s.size 0 5)) 5 ((bytesRow s (grownCap w s.size 0 5)).size,(bytesRow s (grownCap w s.size 0 5)).size+1))).drew:=((bE _ _).alloc (lR _) _).trans ⟨rfl,rfl,rfl,lR _,fun _ _=>rfl⟩;have HC:Hid (∀ j,j<s.size→(w.alloc (Obj.cells (bytesRow s (grownCap w s.size 0 5)) 5 ((bytesRow s (grownCap w s.size 0 5)).size,(bytesRow s (grownCap w s.size 0 5)).size+1))).drew.cell? ⟨w.heap.size,j,none⟩=some (.int .u8 ((s.data.toList.getD j 0).toNat:Int))):=fun j hj=>cell_bytes s w _ _ _ j hj
 have HSZ:Hid (s.size=s.data.toList.length):=size_data s;go_enter Tryz.func164,Tryz.ntmps164;go_wp2_with fail;generalize grownCap w s.size 0 5=cap at *;generalize World.drew _=W1 at *;clear hcv;go_loopw [12,13,15,16,17,101] (fun us n _ _ _ i w'=>∃ j nv:Nat,j≤s.size∧us=.bool false∧n=.int .u64 nv∧nv≤255∧i=.int .i64 j∧w'=W1∧Hid (pu 255 nv (s.data.toList.drop j)=pu 255 0 s.data.toList)) (fun _ _ _ _ _ i _=>s.size-(RowKit.intOf i).toNat)
 case atStart=>exact ⟨0,0,Nat.zero_le _,rfl,rfl,by decide,rfl,rfl,rfl⟩
 case round =>
  obtain ⟨j,nv,hj,rfl,rfl,hnv,rfl,rfl,HP⟩:=hrel;by_cases hjs:j<s.size
  ·have hc:=HC.out j hjs;have hst:=HP.out;rw [pu_step (by rw [← HSZ.out];exact hjs)] at hst;have hb0:(s.data.toList.getD j 0).toNat<256:=(s.data.toList.getD j 0).toNat_lt;have hl0:=lowN_lt _ hb0;generalize (s.data.toList.getD j 0).toNat=m at *;clear HP;by_cases hA:48≤m∧m≤57
   ·rw [show hexV m=some (m-48) by unfold hexV;rw [if_pos hA]] at hst;simp only at hst;have e95:((m:Int)==95)=false:=nB (by omega);obtain ⟨hA1,hA2⟩:=hA;obtain ⟨d,hd⟩:∃ d,m-48=d:=⟨_,rfl⟩;rw [hd] at hst;have ED:Hid ((m:Int)-48=(d:Int)):=show (m:Int)-48=(d:Int) by omega
    have hd16:d<16:=by omega
    clear hd;by_cases hmx:16*nv+d≤255
    ·rw [if_pos hmx] at hst;obtain ⟨N,hN⟩:∃ N,16*nv+d=N:=⟨_,rfl⟩;rw [hN] at hst hmx;have HP:Hid (pu 255 N (s.data.toList.drop (j+1))=pu 255 0 s.data.toList):=hst;have EN:Hid ((nv:Int)*16+(d:Int)=(N:Int)):=show (nv:Int)*16+(d:Int)=(N:Int) by omega
     have f1:decide ((N:Int)<(nv:Int)*16)=false:=decide_eq_false (by omega);have f2:decide ((255:Int)<(N:Int))=false:=decide_eq_false (by omega);have dc:decide ((1152921504606846976:Int)≤(nv:Int))=false:=decide_eq_false (by omega);clear hst hN;go_upto_region 46 with fail
     rw [ED.out];go_upto_region 52 with fail
     rw [EN.out];go_wp2_with fail;go_roundw
     case rel=>exact ⟨j+1,N,by omega,(by first|rfl|trivial),(by first|rfl|trivial),hmx,by go_num,(by first|rfl|trivial),HP⟩
     case measure=>simp [RowKit.intOf];omega
    ·rw [if_neg hmx] at hst;obtain ⟨N,hN⟩:∃ N,16*nv+d=N:=⟨_,rfl⟩;rw [hN] at hmx;have HN:Hid (pu 255 0 s.data.toList=none):=hst.symm;have EN:Hid ((nv:Int)*16+(d:Int)=(N:Int)):=show (nv:Int)*16+(d:Int)=(N:Int) by omega
     have f1:decide ((N:Int)<(nv:Int)*16)=false:=decide_eq_false (by omega);have f2:decide ((255:Int)<(N:Int))=true:=decide_eq_true (by omega);have dc:decide ((1152921504606846976:Int)≤(nv:Int))=false:=decide_eq_false (by omega);clear hst hN hmx;go_upto_region 46 with fail
     rw [ED.out];go_upto_region 52 with fail
     rw [EN.out];go_wp2_with fail;go_ret2;refine ⟨_,_,rfl,hB,.inr ⟨HN.out,?_⟩⟩
     first|exact ⟨_,rfl,_,.inl rfl,rfl⟩|exact ⟨_,rfl,_,.inr rfl,rfl⟩|exact ⟨_,.inl rfl,rfl⟩|exact ⟨_,.inr rfl,rfl⟩|simp
   ·by_cases hB2:97≤lowN m∧lowN m≤102
    ·rw [show hexV m=some (lowN m-87) by unfold hexV;rw [if_neg hA,if_pos hB2]] at hst;simp only at hst;have e95:((m:Int)==95)=false:=nB (by rintro h;have h9:m=95:=(by omega);subst h9;exact absurd hB2 (by decide));have hAc:m<48∨57<m:=by omega
     have hlw:=fun w=>lower_any m hb0 w
     have HLW:Hid (∀ w,Calls Tryz.prog 171 #[.int .u8 m] w fun e w'=>e=.returned (.int .u8 (lowN m))∧w'=w):=hlw;clear hlw;obtain ⟨lm,hlm⟩:∃ lm,lowN m=lm:=⟨_,rfl⟩;rw [hlm] at hst HLW hB2 hl0;clear hlm;obtain ⟨hB3,hB4⟩:=hB2;obtain ⟨d,hd⟩:∃ d,lm-87=d:=⟨_,rfl⟩;rw [hd] at hst;have ED:Hid ((lm:Int)-97+10=(d:Int)):=show (lm:Int)-97+10=(d:Int) by omega
     have hd16:d<16:=by omega
     clear hd hA;rcases hAc with hAc|hAc
     ·by_cases hmx:16*nv+d≤255
      ·rw [if_pos hmx] at hst;obtain ⟨N,hN⟩:∃ N,16*nv+d=N:=⟨_,rfl⟩;rw [hN] at hst hmx;have HP:Hid (pu 255 N (s.data.toList.drop (j+1))=pu 255 0 s.data.toList):=hst;have EN:Hid ((nv:Int)*16+(d:Int)=(N:Int)):=show (nv:Int)*16+(d:Int)=(N:Int) by omega
       have f1:decide ((N:Int)<(nv:Int)*16)=false:=decide_eq_false (by omega);have f2:decide ((255:Int)<(N:Int))=false:=decide_eq_false (by omega);have dc:decide ((1152921504606846976:Int)≤(nv:Int))=false:=decide_eq_false (by omega);clear hst hN;go_upto_region 46 with (go_at_call 171;refine (HLW.out _).mono ?_;rintro e w' ⟨rfl,rfl⟩)
       rw [ED.out];go_upto_region 52 with fail
       rw [EN.out];go_wp2_with fail;go_roundw
       case rel=>exact ⟨j+1,N,by omega,(by first|rfl|trivial),(by first|rfl|trivial),hmx,by go_num,(by first|rfl|trivial),HP⟩
       case measure=>simp [RowKit.intOf];omega
      ·rw [if_neg hmx] at hst;obtain ⟨N,hN⟩:∃ N,16*nv+d=N:=⟨_,rfl⟩;rw [hN] at hmx;have HN:Hid (pu 255 0 s.data.toList=none):=hst.symm;have EN:Hid ((nv:Int)*16+(d:Int)=(N:Int)):=show (nv:Int)*16+(d:Int)=(N:Int) by omega
       have f1:decide ((N:Int)<(nv:Int)*16)=false:=decide_eq_false (by omega);have f2:decide ((255:Int)<(N:Int))=true:=decide_eq_true (by omega);have dc:decide ((1152921504606846976:Int)≤(nv:Int))=false:=decide_eq_false (by omega);clear hst hN hmx;go_upto_region 46 with (go_at_call 171;refine (HLW.out _).mono ?_;rintro e w' ⟨rfl,rfl⟩)
       rw [ED.out];go_upto_region 52 with fail
       rw [EN.out];go_wp2_with fail;go_ret2;refine ⟨_,_,rfl,hB,.inr ⟨HN.out,?_⟩⟩
       first|exact ⟨_,rfl,_,.inl rfl,rfl⟩|exact ⟨_,rfl,_,.inr rfl,rfl⟩|exact ⟨_,.inl rfl,rfl⟩|exact ⟨_,.inr rfl,rfl⟩|simp
     ·by_cases hmx:16*nv+d≤255
      ·rw [if_pos hmx] at hst;obtain ⟨N,hN⟩:∃ N,16*nv+d=N:=⟨_,rfl⟩;rw [hN] at hst hmx;have HP:Hid (pu 255 N (s.data.toList.drop (j+1))=pu 255 0 s.data.toList):=hst;have EN:Hid ((nv:Int)*16+(d:Int)=(N:Int)):=show (nv:Int)*16+(d:Int)=(N:Int) by omega
       have f1:decide ((N:Int)<(nv:Int)*16)=false:=decide_eq_false (by omega);have f2:decide ((255:Int)<(N:Int))=false:=decide_eq_false (by omega);have dc:decide ((1152921504606846976:Int)≤(nv:Int))=false:=decide_eq_false (by omega);clear hst hN;go_upto_region 46 with (go_at_call 171;refine (HLW.out _).mono ?_;rintro e w' ⟨rfl,rfl⟩)
       rw [ED.out];go_upto_region 52 with fail
       rw [EN.out];go_wp2_with fail;go_roundw
       case rel=>exact ⟨j+1,N,by omega,(by first|rfl|trivial),(by first|rfl|trivial),hmx,by go_num,(by first|rfl|trivial),HP⟩
       case measure=>simp [RowKit.intOf];omega
      ·rw [if_neg hmx] at hst;obtain ⟨N,hN⟩:∃ N,16*nv+d=N:=⟨_,rfl⟩;rw [hN] at hmx;have HN:Hid (pu 255 0 s.data.toList=none):=hst.symm;have EN:Hid ((nv:Int)*16+(d:Int)=(N:Int)):=show (nv:Int)*16+(d:Int)=(N:Int) by omega
       have f1:decide ((N:Int)<(nv:Int)*16)=false:=decide_eq_false (by omega);have f2:decide ((255:Int)<(N:Int))=true:=decide_eq_true (by omega);have dc:decide ((1152921504606846976:Int)≤(nv:Int))=false:=decide_eq_false (by omega);clear hst hN hmx;go_upto_region 46 with (go_at_call 171;refine (HLW.out _).mono ?_;rintro e w' ⟨rfl,rfl⟩)
       rw [ED.out];go_upto_region 52 with fail
       rw [EN.out];go_wp2_with fail;go_ret2;refine ⟨_,_,rfl,hB,.inr ⟨HN.out,?_⟩⟩
       first|exact ⟨_,rfl,_,.inl rfl,rfl⟩|exact ⟨_,rfl,_,.inr rfl,rfl⟩|exact ⟨_,.inl rfl,rfl⟩|exact ⟨_,.inr rfl,rfl⟩|simp
    ·have hst2:none=pu 255 0 s.data.toList:=by
      rw [show hexV m=none by unfold hexV;rw [if_neg hA,if_neg hB2]] at hst;exact hst
     have HN:Hid (pu 255 0 s.data.toList=none):=hst2.symm;clear hst hst2;have HLW:Hid (∀ w,Calls Tryz.prog 171 #[.int .u8 m] w fun e w'=>e=.returned (.int .u8 (lowN m))∧w'=w):=fun w=>lower_any m hb0 w
     have hAc:m<48∨(57<m∧m<95)∨m=95∨95<m:=by omega
     obtain ⟨lm,hlm⟩:∃ lm,lowN m=lm:=⟨_,rfl⟩;have h95:m=95→lm=127:=by intro h;subst h;rw [← hlm];rfl
     rw [hlm] at HLW hB2 hl0;clear hlm hA;have hBc:lm<97∨(103≤lm∧lm≤122)∨122<lm:=by omega
     clear hB2;rcases hAc with hAc|⟨hA1,hA2⟩|hAc|hAc
     ·have e95:((m:Int)==95)=false:=nB (by omega);clear h95;rcases hBc with hBc|⟨hB3,hB4⟩|hBc
      ·go_wp2_with (go_at_call 171;refine (HLW.out _).mono ?_;rintro e w' ⟨rfl,rfl⟩);go_ret2;refine ⟨_,_,rfl,hB,.inr ⟨HN.out,?_⟩⟩
       first|exact ⟨_,rfl,_,.inl rfl,rfl⟩|exact ⟨_,rfl,_,.inr rfl,rfl⟩|exact ⟨_,.inl rfl,rfl⟩|exact ⟨_,.inr rfl,rfl⟩|simp
      ·go_wp2_with (go_at_call 171;refine (HLW.out _).mono ?_;rintro e w' ⟨rfl,rfl⟩);go_ret2;refine ⟨_,_,rfl,hB,.inr ⟨HN.out,?_⟩⟩
       first|exact ⟨_,rfl,_,.inl rfl,rfl⟩|exact ⟨_,rfl,_,.inr rfl,rfl⟩|exact ⟨_,.inl rfl,rfl⟩|exact ⟨_,.inr rfl,rfl⟩|simp
      ·go_wp2_with (go_at_call 171;refine (HLW.out _).mono ?_;rintro e w' ⟨rfl,rfl⟩);go_ret2;refine ⟨_,_,rfl,hB,.inr ⟨HN.out,?_⟩⟩
       first|exact ⟨_,rfl,_,.inl rfl,rfl⟩|exact ⟨_,rfl,_,.inr rfl,rfl⟩|exact ⟨_,.inl rfl,rfl⟩|exact ⟨_,.inr rfl,rfl⟩|simp
     ·have e95:((m:Int)==95)=false:=nB (by omega);clear h95;rcases hBc with hBc|⟨hB3,hB4⟩|hBc
      ·go_wp2_with (go_at_call 171;refine (HLW.out _).mono ?_;rintro e w' ⟨rfl,rfl⟩);go_ret2;refine ⟨_,_,rfl,hB,.inr ⟨HN.out,?_⟩⟩
       first|exact ⟨_,rfl,_,.inl rfl,rfl⟩|exact ⟨_,rfl,_,.inr rfl,rfl⟩|exact ⟨_,.inl rfl,rfl⟩|exact ⟨_,.inr rfl,rfl⟩|simp
      ·go_wp2_with (go_at_call 171;refine (HLW.out _).mono ?_;rintro e w' ⟨rfl,rfl⟩);go_ret2;refine ⟨_,_,rfl,hB,.inr ⟨HN.out,?_⟩⟩
       first|exact ⟨_,rfl,_,.inl rfl,rfl⟩|exact ⟨_,rfl,_,.inr rfl,rfl⟩|exact ⟨_,.inl rfl,rfl⟩|exact ⟨_,.inr rfl,rfl⟩|simp
      ·go_wp2_with (go_at_call 171;refine (HLW.out _).mono ?_;rintro e w' ⟨rfl,rfl⟩);go_ret2;refine ⟨_,_,rfl,hB,.inr ⟨HN.out,?_⟩⟩
       first|exact ⟨_,rfl,_,.inl rfl,rfl⟩|exact ⟨_,rfl,_,.inr rfl,rfl⟩|exact ⟨_,.inl rfl,rfl⟩|exact ⟨_,.inr rfl,rfl⟩|simp
     ·subst hAc;have hb127:lm=127:=h95 rfl;subst hb127;clear hBc h95;go_wp2_with (go_at_call 171;refine (HLW.out _).mono ?_;rintro e w' ⟨rfl,rfl⟩);go_ret2;refine ⟨_,_,rfl,hB,.inr ⟨HN.out,?_⟩⟩
      first|exact ⟨_,rfl,_,.inl rfl,rfl⟩|exact ⟨_,rfl,_,.inr rfl,rfl⟩|exact ⟨_,.inl rfl,rfl⟩|exact ⟨_,.inr rfl,rfl⟩|simp
     ·have e95:((m:Int)==95)=false:=nB (by omega);clear h95;rcases hBc with hBc|⟨hB3,hB4⟩|hBc
      ·go_wp2_with (go_at_call 171;refine (HLW.out _).mono ?_;rintro e w' ⟨rfl,rfl⟩);go_ret2;refine ⟨_,_,rfl,hB,.inr ⟨HN.out,?_⟩⟩
       first|exact ⟨_,rfl,_,.inl rfl,rfl⟩|exact ⟨_,rfl,_,.inr rfl,rfl⟩|exact ⟨_,.inl rfl,rfl⟩|exact ⟨_,.inr rfl,rfl⟩|simp
      ·go_wp2_with (go_at_call 171;refine (HLW.out _).mono ?_;rintro e w' ⟨rfl,rfl⟩);go_ret2;refine ⟨_,_,rfl,hB,.inr ⟨HN.out,?_⟩⟩
       first|exact ⟨_,rfl,_,.inl rfl,rfl⟩|exact ⟨_,rfl,_,.inr rfl,rfl⟩|exact ⟨_,.inl rfl,rfl⟩|exact ⟨_,.inr rfl,rfl⟩|simp
      ·go_wp2_with (go_at_call 171;refine (HLW.out _).mono ?_;rintro e w' ⟨rfl,rfl⟩);go_ret2;refine ⟨_,_,rfl,hB,.inr ⟨HN.out,?_⟩⟩
       first|exact ⟨_,rfl,_,.inl rfl,rfl⟩|exact ⟨_,rfl,_,.inr rfl,rfl⟩|exact ⟨_,.inl rfl,rfl⟩|exact ⟨_,.inr rfl,rfl⟩|simp
  ·have hjn:j=s.size:=by omega
   subst hjn;have hst:=HP.out;rw [List.drop_eq_nil_of_le (by rw [← HSZ.out];omega),pu] at hst;have HP2:Hid (pu 255 0 s.data.toList=some nv):=hst.symm;clear hst HP;go_wp2_with fail;go_ret2;exact ⟨_,_,rfl,hB,.inl ⟨nv,HP2.out,rfl,rfl⟩⟩
theorem parseIn_31 (s:ByteArray) (hs:s.size≤1099511627776) (hne:0<s.size) (w:World) :
  Calls Tryz.prog 164 #[.string s,.int .i64 16,.int .i64 31] w fun e w'=>∃ x E,e=.returned (.tuple #[x,E])∧Below w.heap.size w w' ∧
   ((∃ v:Nat,pu 2147483647 0 s.data.toList=some v∧x=.int .u64 v∧E=.nilIface)∨(pu 2147483647 0 s.data.toList=none∧∃ y:Int,x=.int .u64 y∧∃ k:Int,(k=1∨k=2)∧E=.iface 197 (.int .i64 k))):=by
 have hcv:=run_bytes_of_string (P:=Tryz.prog);have ht:=size_ne s hne;have hroom:s.size≤grownCap w s.size 0 5:=grownCap_ge _ _ _ _;have hB:Below w.heap.size w (w.alloc (Obj.cells (bytesRow s (grownCap w s.size 0 5)) 5 ((bytesRow s (grownCap w s.size 0 5)).size,(bytesRow s (grownCap w s.size 0 5)).size+1))).drew:=((bE _ _).alloc (lR _) _).trans ⟨rfl,rfl,rfl,lR _,fun _ _=>rfl⟩;have HC:Hid (∀ j,j<s.size→(w.alloc (Obj.cells (bytesRow s (grownCap w s.size 0 5)) 5 ((bytesRow s (grownCap w s.size 0 5)).size,(bytesRow s (grownCap w s.size 0 5)).size+1))).drew.cell? ⟨w.heap.size,j,none⟩=some (.int .u8 ((s.data.toList.getD j 0).toNat:Int))):=fun j hj=>cell_bytes s w _ _ _ j hj
 have HSZ:Hid (s.size=s.data.toList.length):=size_data s;go_enter Tryz.func164,Tryz.ntmps164;go_wp2_with fail;generalize grownCap w s.size 0 5=cap at *;generalize World.drew _=W1 at *;clear hcv;go_loopw [12,13,15,16,17,101] (fun us n _ _ _ i w'=>∃ j nv:Nat,j≤s.size∧us=.bool false∧n=.int .u64 nv∧nv≤2147483647∧i=.int .i64 j∧w'=W1∧Hid (pu 2147483647 nv (s.data.toList.drop j)=pu 2147483647 0 s.data.toList)) (fun _ _ _ _ _ i _=>s.size-(RowKit.intOf i).toNat)
 case atStart=>exact ⟨0,0,Nat.zero_le _,rfl,rfl,by decide,rfl,rfl,rfl⟩
 case round =>
  obtain ⟨j,nv,hj,rfl,rfl,hnv,rfl,rfl,HP⟩:=hrel;by_cases hjs:j<s.size
  ·have hc:=HC.out j hjs;have hst:=HP.out;rw [pu_step (by rw [← HSZ.out];exact hjs)] at hst;have hb0:(s.data.toList.getD j 0).toNat<256:=(s.data.toList.getD j 0).toNat_lt;have hl0:=lowN_lt _ hb0;generalize (s.data.toList.getD j 0).toNat=m at *;clear HP;by_cases hA:48≤m∧m≤57
   ·rw [show hexV m=some (m-48) by unfold hexV;rw [if_pos hA]] at hst;simp only at hst;have e95:((m:Int)==95)=false:=nB (by omega);obtain ⟨hA1,hA2⟩:=hA;obtain ⟨d,hd⟩:∃ d,m-48=d:=⟨_,rfl⟩;rw [hd] at hst;have ED:Hid ((m:Int)-48=(d:Int)):=show (m:Int)-48=(d:Int) by omega
    have hd16:d<16:=by omega
    clear hd;by_cases hmx:16*nv+d≤2147483647
    ·rw [if_pos hmx] at hst;obtain ⟨N,hN⟩:∃ N,16*nv+d=N:=⟨_,rfl⟩;rw [hN] at hst hmx;have HP:Hid (pu 2147483647 N (s.data.toList.drop (j+1))=pu 2147483647 0 s.data.toList):=hst;have EN:Hid ((nv:Int)*16+(d:Int)=(N:Int)):=show (nv:Int)*16+(d:Int)=(N:Int) by omega
     have f1:decide ((N:Int)<(nv:Int)*16)=false:=decide_eq_false (by omega);have f2:decide ((2147483647:Int)<(N:Int))=false:=decide_eq_false (by omega);have dc:decide ((1152921504606846976:Int)≤(nv:Int))=false:=decide_eq_false (by omega);clear hst hN;go_upto_region 46 with fail
     rw [ED.out];go_upto_region 52 with fail
     rw [EN.out];go_wp2_with fail;go_roundw
     case rel=>exact ⟨j+1,N,by omega,(by first|rfl|trivial),(by first|rfl|trivial),hmx,by go_num,(by first|rfl|trivial),HP⟩
     case measure=>simp [RowKit.intOf];omega
    ·rw [if_neg hmx] at hst;obtain ⟨N,hN⟩:∃ N,16*nv+d=N:=⟨_,rfl⟩;rw [hN] at hmx;have HN:Hid (pu 2147483647 0 s.data.toList=none):=hst.symm;have EN:Hid ((nv:Int)*16+(d:Int)=(N:Int)):=show (nv:Int)*16+(d:Int)=(N:Int) by omega
     have f1:decide ((N:Int)<(nv:Int)*16)=false:=decide_eq_false (by omega);have f2:decide ((2147483647:Int)<(N:Int))=true:=decide_eq_true (by omega);have dc:decide ((1152921504606846976:Int)≤(nv:Int))=false:=decide_eq_false (by omega);clear hst hN hmx;go_upto_region 46 with fail
     rw [ED.out];go_upto_region 52 with fail
     rw [EN.out];go_wp2_with fail;go_ret2;refine ⟨_,_,rfl,hB,.inr ⟨HN.out,?_⟩⟩
     first|exact ⟨_,rfl,_,.inl rfl,rfl⟩|exact ⟨_,rfl,_,.inr rfl,rfl⟩|exact ⟨_,.inl rfl,rfl⟩|exact ⟨_,.inr rfl,rfl⟩|simp
   ·by_cases hB2:97≤lowN m∧lowN m≤102
    ·rw [show hexV m=some (lowN m-87) by unfold hexV;rw [if_neg hA,if_pos hB2]] at hst;simp only at hst;have e95:((m:Int)==95)=false:=nB (by rintro h;have h9:m=95:=(by omega);subst h9;exact absurd hB2 (by decide));have hAc:m<48∨57<m:=by omega
     have hlw:=fun w=>lower_any m hb0 w
     have HLW:Hid (∀ w,Calls Tryz.prog 171 #[.int .u8 m] w fun e w'=>e=.returned (.int .u8 (lowN m))∧w'=w):=hlw;clear hlw;obtain ⟨lm,hlm⟩:∃ lm,lowN m=lm:=⟨_,rfl⟩;rw [hlm] at hst HLW hB2 hl0;clear hlm;obtain ⟨hB3,hB4⟩:=hB2;obtain ⟨d,hd⟩:∃ d,lm-87=d:=⟨_,rfl⟩;rw [hd] at hst;have ED:Hid ((lm:Int)-97+10=(d:Int)):=show (lm:Int)-97+10=(d:Int) by omega
     have hd16:d<16:=by omega
     clear hd hA;rcases hAc with hAc|hAc
     ·by_cases hmx:16*nv+d≤2147483647
      ·rw [if_pos hmx] at hst;obtain ⟨N,hN⟩:∃ N,16*nv+d=N:=⟨_,rfl⟩;rw [hN] at hst hmx;have HP:Hid (pu 2147483647 N (s.data.toList.drop (j+1))=pu 2147483647 0 s.data.toList):=hst;have EN:Hid ((nv:Int)*16+(d:Int)=(N:Int)):=show (nv:Int)*16+(d:Int)=(N:Int) by omega
       have f1:decide ((N:Int)<(nv:Int)*16)=false:=decide_eq_false (by omega);have f2:decide ((2147483647:Int)<(N:Int))=false:=decide_eq_false (by omega);have dc:decide ((1152921504606846976:Int)≤(nv:Int))=false:=decide_eq_false (by omega);clear hst hN;go_upto_region 46 with (go_at_call 171;refine (HLW.out _).mono ?_;rintro e w' ⟨rfl,rfl⟩)
       rw [ED.out];go_upto_region 52 with fail
       rw [EN.out];go_wp2_with fail;go_roundw
       case rel=>exact ⟨j+1,N,by omega,(by first|rfl|trivial),(by first|rfl|trivial),hmx,by go_num,(by first|rfl|trivial),HP⟩
       case measure=>simp [RowKit.intOf];omega
      ·rw [if_neg hmx] at hst;obtain ⟨N,hN⟩:∃ N,16*nv+d=N:=⟨_,rfl⟩;rw [hN] at hmx;have HN:Hid (pu 2147483647 0 s.data.toList=none):=hst.symm;have EN:Hid ((nv:Int)*16+(d:Int)=(N:Int)):=show (nv:Int)*16+(d:Int)=(N:Int) by omega
       have f1:decide ((N:Int)<(nv:Int)*16)=false:=decide_eq_false (by omega);have f2:decide ((2147483647:Int)<(N:Int))=true:=decide_eq_true (by omega);have dc:decide ((1152921504606846976:Int)≤(nv:Int))=false:=decide_eq_false (by omega);clear hst hN hmx;go_upto_region 46 with (go_at_call 171;refine (HLW.out _).mono ?_;rintro e w' ⟨rfl,rfl⟩)
       rw [ED.out];go_upto_region 52 with fail
       rw [EN.out];go_wp2_with fail;go_ret2;refine ⟨_,_,rfl,hB,.inr ⟨HN.out,?_⟩⟩
       first|exact ⟨_,rfl,_,.inl rfl,rfl⟩|exact ⟨_,rfl,_,.inr rfl,rfl⟩|exact ⟨_,.inl rfl,rfl⟩|exact ⟨_,.inr rfl,rfl⟩|simp
     ·by_cases hmx:16*nv+d≤2147483647
      ·rw [if_pos hmx] at hst;obtain ⟨N,hN⟩:∃ N,16*nv+d=N:=⟨_,rfl⟩;rw [hN] at hst hmx;have HP:Hid (pu 2147483647 N (s.data.toList.drop (j+1))=pu 2147483647 0 s.data.toList):=hst;have EN:Hid ((nv:Int)*16+(d:Int)=(N:Int)):=show (nv:Int)*16+(d:Int)=(N:Int) by omega
       have f1:decide ((N:Int)<(nv:Int)*16)=false:=decide_eq_false (by omega);have f2:decide ((2147483647:Int)<(N:Int))=false:=decide_eq_false (by omega);have dc:decide ((1152921504606846976:Int)≤(nv:Int))=false:=decide_eq_false (by omega);clear hst hN;go_upto_region 46 with (go_at_call 171;refine (HLW.out _).mono ?_;rintro e w' ⟨rfl,rfl⟩)
       rw [ED.out];go_upto_region 52 with fail
       rw [EN.out];go_wp2_with fail;go_roundw
       case rel=>exact ⟨j+1,N,by omega,(by first|rfl|trivial),(by first|rfl|trivial),hmx,by go_num,(by first|rfl|trivial),HP⟩
       case measure=>simp [RowKit.intOf];omega
      ·rw [if_neg hmx] at hst;obtain ⟨N,hN⟩:∃ N,16*nv+d=N:=⟨_,rfl⟩;rw [hN] at hmx;have HN:Hid (pu 2147483647 0 s.data.toList=none):=hst.symm;have EN:Hid ((nv:Int)*16+(d:Int)=(N:Int)):=show (nv:Int)*16+(d:Int)=(N:Int) by omega
       have f1:decide ((N:Int)<(nv:Int)*16)=false:=decide_eq_false (by omega);have f2:decide ((2147483647:Int)<(N:Int))=true:=decide_eq_true (by omega);have dc:decide ((1152921504606846976:Int)≤(nv:Int))=false:=decide_eq_false (by omega);clear hst hN hmx;go_upto_region 46 with (go_at_call 171;refine (HLW.out _).mono ?_;rintro e w' ⟨rfl,rfl⟩)
       rw [ED.out];go_upto_region 52 with fail
       rw [EN.out];go_wp2_with fail;go_ret2;refine ⟨_,_,rfl,hB,.inr ⟨HN.out,?_⟩⟩
       first|exact ⟨_,rfl,_,.inl rfl,rfl⟩|exact ⟨_,rfl,_,.inr rfl,rfl⟩|exact ⟨_,.inl rfl,rfl⟩|exact ⟨_,.inr rfl,rfl⟩|simp
    ·have hst2:none=pu 2147483647 0 s.data.toList:=by
      rw [show hexV m=none by unfold hexV;rw [if_neg hA,if_neg hB2]] at hst;exact hst
     have HN:Hid (pu 2147483647 0 s.data.toList=none):=hst2.symm;clear hst hst2;have HLW:Hid (∀ w,Calls Tryz.prog 171 #[.int .u8 m] w fun e w'=>e=.returned (.int .u8 (lowN m))∧w'=w):=fun w=>lower_any m hb0 w
     have hAc:m<48∨(57<m∧m<95)∨m=95∨95<m:=by omega
     obtain ⟨lm,hlm⟩:∃ lm,lowN m=lm:=⟨_,rfl⟩;have h95:m=95→lm=127:=by intro h;subst h;rw [← hlm];rfl
     rw [hlm] at HLW hB2 hl0;clear hlm hA;have hBc:lm<97∨(103≤lm∧lm≤122)∨122<lm:=by omega
     clear hB2;rcases hAc with hAc|⟨hA1,hA2⟩|hAc|hAc
     ·have e95:((m:Int)==95)=false:=nB (by omega);clear h95;rcases hBc with hBc|⟨hB3,hB4⟩|hBc
      ·go_wp2_with (go_at_call 171;refine (HLW.out _).mono ?_;rintro e w' ⟨rfl,rfl⟩);go_ret2;refine ⟨_,_,rfl,hB,.inr ⟨HN.out,?_⟩⟩
       first|exact ⟨_,rfl,_,.inl rfl,rfl⟩|exact ⟨_,rfl,_,.inr rfl,rfl⟩|exact ⟨_,.inl rfl,rfl⟩|exact ⟨_,.inr rfl,rfl⟩|simp
      ·go_wp2_with (go_at_call 171;refine (HLW.out _).mono ?_;rintro e w' ⟨rfl,rfl⟩);go_ret2;refine ⟨_,_,rfl,hB,.inr ⟨HN.out,?_⟩⟩
       first|exact ⟨_,rfl,_,.inl rfl,rfl⟩|exact ⟨_,rfl,_,.inr rfl,rfl⟩|exact ⟨_,.inl rfl,rfl⟩|exact ⟨_,.inr rfl,rfl⟩|simp
      ·go_wp2_with (go_at_call 171;refine (HLW.out _).mono ?_;rintro e w' ⟨rfl,rfl⟩);go_ret2;refine ⟨_,_,rfl,hB,.inr ⟨HN.out,?_⟩⟩
       first|exact ⟨_,rfl,_,.inl rfl,rfl⟩|exact ⟨_,rfl,_,.inr rfl,rfl⟩|exact ⟨_,.inl rfl,rfl⟩|exact ⟨_,.inr rfl,rfl⟩|simp
     ·have e95:((m:Int)==95)=false:=nB (by omega);clear h95;rcases hBc with hBc|⟨hB3,hB4⟩|hBc
      ·go_wp2_with (go_at_call 171;refine (HLW.out _).mono ?_;rintro e w' ⟨rfl,rfl⟩);go_ret2;refine ⟨_,_,rfl,hB,.inr ⟨HN.out,?_⟩⟩
       first|exact ⟨_,rfl,_,.inl rfl,rfl⟩|exact ⟨_,rfl,_,.inr rfl,rfl⟩|exact ⟨_,.inl rfl,rfl⟩|exact ⟨_,.inr rfl,rfl⟩|simp
      ·go_wp2_with (go_at_call 171;refine (HLW.out _).mono ?_;rintro e w' ⟨rfl,rfl⟩);go_ret2;refine ⟨_,_,rfl,hB,.inr ⟨HN.out,?_⟩⟩
       first|exact ⟨_,rfl,_,.inl rfl,rfl⟩|exact ⟨_,rfl,_,.inr rfl,rfl⟩|exact ⟨_,.inl rfl,rfl⟩|exact ⟨_,.inr rfl,rfl⟩|simp
      ·go_wp2_with (go_at_call 171;refine (HLW.out _).mono ?_;rintro e w' ⟨rfl,rfl⟩);go_ret2;refine ⟨_,_,rfl,hB,.inr ⟨HN.out,?_⟩⟩
       first|exact ⟨_,rfl,_,.inl rfl,rfl⟩|exact ⟨_,rfl,_,.inr rfl,rfl⟩|exact ⟨_,.inl rfl,rfl⟩|exact ⟨_,.inr rfl,rfl⟩|simp
     ·subst hAc;have hb127:lm=127:=h95 rfl;subst hb127;clear hBc h95;go_wp2_with (go_at_call 171;refine (HLW.out _).mono ?_;rintro e w' ⟨rfl,rfl⟩);go_ret2;refine ⟨_,_,rfl,hB,.inr ⟨HN.out,?_⟩⟩
      first|exact ⟨_,rfl,_,.inl rfl,rfl⟩|exact ⟨_,rfl,_,.inr rfl,rfl⟩|exact ⟨_,.inl rfl,rfl⟩|exact ⟨_,.inr rfl,rfl⟩|simp
     ·have e95:((m:Int)==95)=false:=nB (by omega);clear h95;rcases hBc with hBc|⟨hB3,hB4⟩|hBc
      ·go_wp2_with (go_at_call 171;refine (HLW.out _).mono ?_;rintro e w' ⟨rfl,rfl⟩);go_ret2;refine ⟨_,_,rfl,hB,.inr ⟨HN.out,?_⟩⟩
       first|exact ⟨_,rfl,_,.inl rfl,rfl⟩|exact ⟨_,rfl,_,.inr rfl,rfl⟩|exact ⟨_,.inl rfl,rfl⟩|exact ⟨_,.inr rfl,rfl⟩|simp
      ·go_wp2_with (go_at_call 171;refine (HLW.out _).mono ?_;rintro e w' ⟨rfl,rfl⟩);go_ret2;refine ⟨_,_,rfl,hB,.inr ⟨HN.out,?_⟩⟩
       first|exact ⟨_,rfl,_,.inl rfl,rfl⟩|exact ⟨_,rfl,_,.inr rfl,rfl⟩|exact ⟨_,.inl rfl,rfl⟩|exact ⟨_,.inr rfl,rfl⟩|simp
      ·go_wp2_with (go_at_call 171;refine (HLW.out _).mono ?_;rintro e w' ⟨rfl,rfl⟩);go_ret2;refine ⟨_,_,rfl,hB,.inr ⟨HN.out,?_⟩⟩
       first|exact ⟨_,rfl,_,.inl rfl,rfl⟩|exact ⟨_,rfl,_,.inr rfl,rfl⟩|exact ⟨_,.inl rfl,rfl⟩|exact ⟨_,.inr rfl,rfl⟩|simp
  ·have hjn:j=s.size:=by omega
   subst hjn;have hst:=HP.out;rw [List.drop_eq_nil_of_le (by rw [← HSZ.out];omega),pu] at hst;have HP2:Hid (pu 2147483647 0 s.data.toList=some nv):=hst.symm;clear hst HP;go_wp2_with fail;go_ret2;exact ⟨_,_,rfl,hB,.inl ⟨nv,HP2.out,rfl,rfl⟩⟩
end Go.Proofs.YtijpfbcippijoaaGreatDoor
