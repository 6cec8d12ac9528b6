/- qaV of one kind, in one file: RecF, RecG. -/
import Derived.Test.YtapgoifimhnbdaaGreatDoorRca
import Derived.Test.YtapgoifimhnbdaaGreatDoorRcd
import Derived.Deep.DeepCutAuto
import Derived.Deep.CutBlock
import Derived.Deep.Cut
import Derived.Deep.LoopGhost
set_option linter.unusedVariables false
set_option maxRecDepth 100000
namespace Go.Proofs.YtapgoifimhnbdaaGreatDoor
open Go.RowKit
open Go.OpenShut
theorem qxO (s:ByteArray) (w:World) (T:Tab w) (hs:s.size≤281474976710656):Calls Tryz.prog 249 #[.string s] w fun e w'=>e= .returned (rdV (recR s.data.toList))∧Below w.heap.size w w':=by
 by_cases h1:hasB 32 s.data.toList=true∧numB (s.data.toList.take (pos 32 s.data.toList))=true
 ·obtain ⟨hb,hn⟩:=h1
  by_cases h:s.size<dVal (s.data.toList.take (pos 32 s.data.toList))
  ·exact qzX s w hs hb hn h
  ·cases h2:splO (s.data.toList.take (dVal (s.data.toList.take (pos 32 s.data.toList)))) (pos 32 s.data.toList+1)
   ·exact qzW s w hs hb hn (by omega) h2
   ·by_cases h3:chkR (splK (s.data.toList.take (dVal (s.data.toList.take (pos 32 s.data.toList)))) (pos 32 s.data.toList+1)) (splV (s.data.toList.take (dVal (s.data.toList.take (pos 32 s.data.toList)))) (pos 32 s.data.toList+1))=0
    ·by_cases h4:recL (splK (s.data.toList.take (dVal (s.data.toList.take (pos 32 s.data.toList)))) (pos 32 s.data.toList+1)) (splV (s.data.toList.take (dVal (s.data.toList.take (pos 32 s.data.toList)))) (pos 32 s.data.toList+1))=s.data.toList.take (dVal (s.data.toList.take (pos 32 s.data.toList)))
     ·exact q7F s w T hs hb hn (by omega) h2 h3 h4
     ·exact q7G s w T hs hb hn (by omega) h2 h3 h4
    ·exact q7H s w T hs hb hn (by omega) h2 h3
 ·exact qzY s w hs h1
theorem qd4 (c:Int) (w:World):Calls Tryz.prog 261 #[.int .i64 c] w fun e w'=>e= .returned (.tuple #[.agg #[.string ⟨#[]⟩,.string ⟨#[]⟩],.string ⟨#[]⟩,.int .i64 c])∧Below w.heap.size w w':=by
 go_enter Tryz.func261,Tryz.ntmps261;go_wp2_with fail;exact bodyPost_ret (v:= .tuple #[.agg #[.string ⟨#[]⟩,.string ⟨#[]⟩],.string ⟨#[]⟩,.int .i64 c]) (by simp [results,Tryz.results261,go_sem, *]) rfl ⟨rfl,by first|exact (Below.refl _ _).alloc (Nat.le_refl _) _|exact Below.set2 ((Below.refl _ _).alloc (Nat.le_refl _) _) (Nat.le_refl _) _ _⟩
theorem qnI (s:ByteArray) (k:Nat) (hk:k<(digP s.data.toList).length): ∃h:k<s.size,isD (s[k]'h)=true:=by
 have hle:=qkO s.data.toList;have hlt:k<s.data.toList.length:=by omega
 have h2:k<s.size:=by rw [←qaD];exact hlt
 refine ⟨h2,?_⟩
 have hm:s.data.toList[k]∈digP s.data.toList:=by
  rw [qeB s.data.toList];exact List.mem_iff_getElem.2 ⟨k,by rw [List.length_take];omega,by rw [List.getElem_take]⟩
 exact qrA _ _ hm
theorem qjJ (s:ByteArray) (h:(digP s.data.toList).length<s.size):isD (s[(digP s.data.toList).length]'h)=false:=
 q3V s.data.toList _ (by rw [qaD];exact h) rfl
theorem qmU {c:UInt8} (h:isD c=true):48≤c.toNat∧c.toNat≤57:=of_decide_eq_true h
theorem qhB (s:ByteArray) (k:Nat) (h:k<s.size):dVal (s.data.toList.take (k+1))=10*dVal (s.data.toList.take k)+((s[k]'h).toNat-48):=by
 rw [qc4 s k h,qtV]
theorem qhA (l:List UInt8) (k m:Nat) (h:k≤(digP l).length) (hm:k≤m):dVal (l.take k)<10^m:=by
 have h1:=q3X (l.take k) (fun c hc=>qrA l c (by rw [qeB l];exact List.mem_of_mem_take (i:=k) (by rw [List.take_take,Nat.min_eq_left h];exact hc)));have h2:10^(l.take k).length≤10^m:=Nat.pow_le_pow_right (by omega) (by rw [List.length_take];omega);omega
set_option maxHeartbeats 2000000 in
theorem qsK (s:ByteArray) (w:World) (T:Tab w) (hs:s.size≤281474976710656) (hf: ¬qcE s.data.toList):
  Calls Tryz.prog 216 #[.string s] w fun e w'=>e= .returned (rdV (recR s.data.toList))∧Below w.heap.size w w':=by
 have Hhf:=Lib.hid hf;clear hf;have HNo:=Lib.hid fun W=>qd4 3 W;have HNo7:=Lib.hid fun W=>qd4 7 W;have HAt:=Lib.hid (qnI s);have HEnd:=Lib.hid (qjJ s);have HV:=Lib.hid fun k hk (hk5:k≤5)=>qhA s.data.toList k 5 hk hk5;have HSt:=Lib.hid (qhB s);have hDs:(digP s.data.toList).length≤s.size:=by have:=qkO s.data.toList;rw [qaD]at this;exact this
 obtain ⟨D,HD⟩:=qaA (digP s.data.toList).length;rw [HD.out]at HAt HEnd HV hDs;go_enter Tryz.func216,Tryz.ntmps216
 go_upto_block 0 with fail
 go_cut [6,7] (fun s6 s7 wx=> ∃M N:Nat,s6= .int .i64 (M:Int)∧s7= .int .i64 (N:Int)∧M≤5∧M≤D∧M≤s.size∧Hid (M=min D 5)∧N<100000∧Hid (N=dVal (s.data.toList.take M))∧wx=w.alloc (.cells recZ 190))
 case first=>
  go_wp2_with fail
  go_loop [6,7] (fun i o=> ∃k N:Nat,i= .int .i64 (k:Int)∧o= .int .i64 (N:Int)∧k≤D∧k≤5∧k≤s.size∧N<100000∧Hid (N=dVal (s.data.toList.take k))) (fun i _=>s.size-(intOf i).toNat)
  case atStart=>exact ⟨0,0,rfl,rfl,Nat.zero_le _,by omega,Nat.zero_le _,by omega,rfl⟩
  case round=>
   obtain ⟨k,N,rfl,rfl,hkD,hk5,hks,hN,HN⟩:=hrel
   by_cases hlt:k<s.size
   ·obtain ⟨c,hc⟩: ∃c:UInt8,s[k]=c:=⟨_,rfl⟩;have hcu:=qlU c
    by_cases hd:isD c=true
    ·obtain ⟨d1,d2⟩:=qmU hd
     have hkD':k<D:=by
      rcases Nat.lt_or_ge k D with h|h
      ·exact h
      ·exfalso;obtain rfl:k=D:=by omega
       have:=HEnd.out hlt;rw [hc,hd]at this;cases this
     by_cases h5:k<5
     ·have HN1:Hid (10*N+(c.toNat-48)=dVal (s.data.toList.take (k+1))):=by
       unfold Hid;rw [HSt.out k hlt,hc,←HN.out]
      have hN1:10*N+(c.toNat-48)<100000:=by
       rw [HN1.out];exact HV.out (k+1) (by omega) (by omega)
      have e1:(10:Int)*(N:Int)+((c.toNat:Int) -48)=((10*N+(c.toNat-48):Nat):Int):=by omega
      have q1:(48:Int)≤(c.toNat:Int):=by omega
      have q2:(c.toNat:Int)≤57:=by omega
      clear hd;go_wp2_with fail;go_round
      case rel=>exact ⟨k+1,10*N+(c.toNat-48),by go_num,by first|(rw [e1])|(congr 1),by omega,by omega,by omega,hN1,HN1⟩
      case measure=>simp [intOf];omega
     ·have q1:(48:Int)≤(c.toNat:Int):=by omega
      have q2:(c.toNat:Int)≤57:=by omega
      have q3: ¬(k:Int)<5:=by omega
      have Hm:Hid (k=min D 5):=by unfold Hid;omega
      clear hd;go_wp2_with fail;go_meet;exact ⟨k,N,rfl,rfl,hk5,hkD,hks,Hm,hN,HN,rfl⟩
    ·have Hm:Hid (k=min D 5):=by
      unfold Hid;rcases Nat.lt_or_ge k D with h|h
      ·exfalso;obtain ⟨h1,h2⟩:=HAt.out k h;rw [hc]at h2;exact hd h2
      ·omega
     have hd': ¬(48≤c.toNat∧c.toNat≤57):=fun h=>hd (decide_eq_true h);rcases (show (c.toNat:Int)<48∨((48:Int)≤(c.toNat:Int)∧57<(c.toNat:Int)) by omega)with q|⟨q,q2⟩
     all_goals
      clear hd hd';go_wp2_with fail;go_meet;exact ⟨k,N,rfl,rfl,hk5,hkD,hks,Hm,hN,HN,rfl⟩
   ·obtain rfl:k=s.size:=by omega
    have Hm:Hid (s.size=min D 5):=by unfold Hid;omega
    go_wp2_with fail;go_meet;exact ⟨s.size,N,rfl,rfl,hk5,hkD,hks,Hm,hN,HN,rfl⟩
 case rest=>
  obtain ⟨M,N,rfl,rfl,hM5,hMD,hMs,Hm,hN,HN,rfl⟩:=hcut;have hg:=Blk.new w 190 recZ;have hw:Below w.heap.size w (w.alloc (.cells recZ 190)):=(Below.refl _ _).alloc (Nat.le_refl _) _;unfold recZ at hg hw;have hf:=Hhf.out
  have HR:Hid (rdV (recR s.data.toList)= .tuple #[.agg #[.string ⟨#[]⟩,.string ⟨#[]⟩],.string ⟨#[]⟩,.int .i64 3]):=by
   unfold Hid recR;rw [if_pos hf];rfl
  have hcase:M=0∨(1≤M∧4<M)∨(1≤M∧M≤4∧ ∃h:0<s.size,(((s[0]'h).toNat:Int)==48)=true)∨(1≤M∧M≤4∧M=s.size∧ ∃h:0<s.size,(((s[0]'h).toNat:Int)==48)=false)∨
    (1≤M∧M≤4∧(∃h:0<s.size,(((s[0]'h).toNat:Int)==48)=false)∧ ∃h:M<s.size,(((s[M]'h).toNat:Int) !=32)=true):=by
   by_cases h0:M=0
   ·exact .inl h0
   ·by_cases h4:4<M
    ·exact .inr (.inl ⟨by omega,h4⟩)
    ·have h1:0<s.size:=by omega
     cases hz:(((s[0]'h1).toNat:Int)==48)
     ·by_cases hMs2:M=s.size
      ·exact .inr (.inr (.inr (.inl ⟨by omega,by omega,hMs2,h1,hz⟩)))
      ·have h2:M<s.size:=by omega
       refine .inr (.inr (.inr (.inr ⟨by omega,by omega,⟨h1,hz⟩,h2,?_⟩)));rw [bne_iff_ne];intro a;have hMD2:(digP s.data.toList).length=M:=by have:=HD.out;have:=Hm.out;omega
       refine hf ⟨by omega,by omega,?_,?_⟩
       ·rw [List.head?_eq_getElem?,Lib.data_getElem? s 0 h1];intro b;rw [Option.some.inj b]at hz;revert hz;decide
       ·rw [hMD2,Lib.data_getElem? s M h2]
        congr 1;exact UInt8.toNat_inj.1 (by show _=32;omega)
     ·exact .inr (.inr (.inl ⟨by omega,by omega,h1,hz⟩))
  clear hf;rcases hcase with rfl|⟨h1,h2⟩|⟨h1,h2,h3,h4⟩|⟨h1,h2,rfl,h3,h4⟩|⟨h1,h2,⟨h3,h4⟩,h5,h6⟩
  ·go_wp2_with fail;refine (HNo.out _).mono ?_;rintro e1 w1 ⟨rfl,hb1⟩;have hb1':=hg.below hb1 hg.lt;have HW1:=Lib.hid (hw.trans (hb1.mono hw.size));obtain ⟨⟨c0,c1⟩,f0,f1⟩:=blk2 hb1';have HPz:=Lib.hid (Blk.put2 hb1' (.string ⟨#[]⟩) (.string ⟨#[]⟩));clear hb1' hb1;go_wp2_with fail;obtain ⟨⟨c0',c1'⟩,-⟩:=blk2 HPz.out;exact bodyPost_ret (v:= .tuple #[.agg #[.string ⟨#[]⟩,.string ⟨#[]⟩],.string ⟨#[]⟩,.int .i64 3]) (by simp [results,Tryz.results216,go_sem, *]) rfl ⟨by rw [HR.out],Below.set2 HW1.out (Nat.le_refl _) _ _⟩
  ·go_wp2_with fail;refine (HNo.out _).mono ?_;rintro e1 w1 ⟨rfl,hb1⟩;have hb1':=hg.below hb1 hg.lt;have HW1:=Lib.hid (hw.trans (hb1.mono hw.size));obtain ⟨⟨c0,c1⟩,f0,f1⟩:=blk2 hb1';have HPz:=Lib.hid (Blk.put2 hb1' (.string ⟨#[]⟩) (.string ⟨#[]⟩));clear hb1' hb1;go_wp2_with fail;obtain ⟨⟨c0',c1'⟩,-⟩:=blk2 HPz.out;exact bodyPost_ret (v:= .tuple #[.agg #[.string ⟨#[]⟩,.string ⟨#[]⟩],.string ⟨#[]⟩,.int .i64 3]) (by simp [results,Tryz.results216,go_sem, *]) rfl ⟨by rw [HR.out],Below.set2 HW1.out (Nat.le_refl _) _ _⟩
  ·go_wp2_with fail;refine (HNo.out _).mono ?_;rintro e1 w1 ⟨rfl,hb1⟩;have hb1':=hg.below hb1 hg.lt;have HW1:=Lib.hid (hw.trans (hb1.mono hw.size));obtain ⟨⟨c0,c1⟩,f0,f1⟩:=blk2 hb1';have HPz:=Lib.hid (Blk.put2 hb1' (.string ⟨#[]⟩) (.string ⟨#[]⟩));clear hb1' hb1;go_wp2_with fail;obtain ⟨⟨c0',c1'⟩,-⟩:=blk2 HPz.out;exact bodyPost_ret (v:= .tuple #[.agg #[.string ⟨#[]⟩,.string ⟨#[]⟩],.string ⟨#[]⟩,.int .i64 3]) (by simp [results,Tryz.results216,go_sem, *]) rfl ⟨by rw [HR.out],Below.set2 HW1.out (Nat.le_refl _) _ _⟩
  ·have tS0:((s.size:Int)==0)=false:=by rw [beq_eq_false_iff_ne];omega
   go_wp2_with fail;refine (HNo.out _).mono ?_;rintro e1 w1 ⟨rfl,hb1⟩;have hb1':=hg.below hb1 hg.lt;have HW1:=Lib.hid (hw.trans (hb1.mono hw.size));obtain ⟨⟨c0,c1⟩,f0,f1⟩:=blk2 hb1';have HPz:=Lib.hid (Blk.put2 hb1' (.string ⟨#[]⟩) (.string ⟨#[]⟩));clear hb1' hb1;go_wp2_with fail;obtain ⟨⟨c0',c1'⟩,-⟩:=blk2 HPz.out;exact bodyPost_ret (v:= .tuple #[.agg #[.string ⟨#[]⟩,.string ⟨#[]⟩],.string ⟨#[]⟩,.int .i64 3]) (by simp [results,Tryz.results216,go_sem, *]) rfl ⟨by rw [HR.out],Below.set2 HW1.out (Nat.le_refl _) _ _⟩
  ·have tMs:((M:Int)==(s.size:Int))=false:=by rw [beq_eq_false_iff_ne];omega
   go_wp2_with fail;refine (HNo.out _).mono ?_;rintro e1 w1 ⟨rfl,hb1⟩;have hb1':=hg.below hb1 hg.lt;have HW1:=Lib.hid (hw.trans (hb1.mono hw.size));obtain ⟨⟨c0,c1⟩,f0,f1⟩:=blk2 hb1';have HPz:=Lib.hid (Blk.put2 hb1' (.string ⟨#[]⟩) (.string ⟨#[]⟩));clear hb1' hb1;go_wp2_with fail;obtain ⟨⟨c0',c1'⟩,-⟩:=blk2 HPz.out;exact bodyPost_ret (v:= .tuple #[.agg #[.string ⟨#[]⟩,.string ⟨#[]⟩],.string ⟨#[]⟩,.int .i64 3]) (by simp [results,Tryz.results216,go_sem, *]) rfl ⟨by rw [HR.out],Below.set2 HW1.out (Nat.le_refl _) _ _⟩
set_option maxHeartbeats 2000000 in
theorem qsJ (s:ByteArray) (w:World) (T:Tab w) (hs:s.size≤281474976710656) (hf:qcE s.data.toList) (hh:s.size<dVal (digP s.data.toList)):
  Calls Tryz.prog 216 #[.string s] w fun e w'=>e= .returned (rdV (recR s.data.toList))∧Below w.heap.size w w':=by
 have Hhf:=Lib.hid hf;clear hf;have Hhh:=Lib.hid hh;clear hh;have HNo:=Lib.hid fun W=>qd4 3 W;have HNo7:=Lib.hid fun W=>qd4 7 W;have HAt:=Lib.hid (qnI s);have HEnd:=Lib.hid (qjJ s);have HV:=Lib.hid fun k hk (hk5:k≤5)=>qhA s.data.toList k 5 hk hk5;have HSt:=Lib.hid (qhB s);have hDs:(digP s.data.toList).length≤s.size:=by have:=qkO s.data.toList;rw [qaD]at this;exact this
 obtain ⟨D,HD⟩:=qaA (digP s.data.toList).length;rw [HD.out]at HAt HEnd HV hDs;go_enter Tryz.func216,Tryz.ntmps216
 go_upto_block 0 with fail
 go_cut [6,7] (fun s6 s7 wx=> ∃M N:Nat,s6= .int .i64 (M:Int)∧s7= .int .i64 (N:Int)∧M≤5∧M≤D∧M≤s.size∧Hid (M=min D 5)∧N<100000∧Hid (N=dVal (s.data.toList.take M))∧wx=w.alloc (.cells recZ 190))
 case first=>
  go_wp2_with fail
  go_loop [6,7] (fun i o=> ∃k N:Nat,i= .int .i64 (k:Int)∧o= .int .i64 (N:Int)∧k≤D∧k≤5∧k≤s.size∧N<100000∧Hid (N=dVal (s.data.toList.take k))) (fun i _=>s.size-(intOf i).toNat)
  case atStart=>exact ⟨0,0,rfl,rfl,Nat.zero_le _,by omega,Nat.zero_le _,by omega,rfl⟩
  case round=>
   obtain ⟨k,N,rfl,rfl,hkD,hk5,hks,hN,HN⟩:=hrel
   by_cases hlt:k<s.size
   ·obtain ⟨c,hc⟩: ∃c:UInt8,s[k]=c:=⟨_,rfl⟩;have hcu:=qlU c
    by_cases hd:isD c=true
    ·obtain ⟨d1,d2⟩:=qmU hd
     have hkD':k<D:=by
      rcases Nat.lt_or_ge k D with h|h
      ·exact h
      ·exfalso;obtain rfl:k=D:=by omega
       have:=HEnd.out hlt;rw [hc,hd]at this;cases this
     by_cases h5:k<5
     ·have HN1:Hid (10*N+(c.toNat-48)=dVal (s.data.toList.take (k+1))):=by
       unfold Hid;rw [HSt.out k hlt,hc,←HN.out]
      have hN1:10*N+(c.toNat-48)<100000:=by
       rw [HN1.out];exact HV.out (k+1) (by omega) (by omega)
      have e1:(10:Int)*(N:Int)+((c.toNat:Int) -48)=((10*N+(c.toNat-48):Nat):Int):=by omega
      have q1:(48:Int)≤(c.toNat:Int):=by omega
      have q2:(c.toNat:Int)≤57:=by omega
      clear hd;go_wp2_with fail;go_round
      case rel=>exact ⟨k+1,10*N+(c.toNat-48),by go_num,by first|(rw [e1])|(congr 1),by omega,by omega,by omega,hN1,HN1⟩
      case measure=>simp [intOf];omega
     ·have q1:(48:Int)≤(c.toNat:Int):=by omega
      have q2:(c.toNat:Int)≤57:=by omega
      have q3: ¬(k:Int)<5:=by omega
      have Hm:Hid (k=min D 5):=by unfold Hid;omega
      clear hd;go_wp2_with fail;go_meet;exact ⟨k,N,rfl,rfl,hk5,hkD,hks,Hm,hN,HN,rfl⟩
    ·have Hm:Hid (k=min D 5):=by
      unfold Hid;rcases Nat.lt_or_ge k D with h|h
      ·exfalso;obtain ⟨h1,h2⟩:=HAt.out k h;rw [hc]at h2;exact hd h2
      ·omega
     have hd': ¬(48≤c.toNat∧c.toNat≤57):=fun h=>hd (decide_eq_true h);rcases (show (c.toNat:Int)<48∨((48:Int)≤(c.toNat:Int)∧57<(c.toNat:Int)) by omega)with q|⟨q,q2⟩
     all_goals
      clear hd hd';go_wp2_with fail;go_meet;exact ⟨k,N,rfl,rfl,hk5,hkD,hks,Hm,hN,HN,rfl⟩
   ·obtain rfl:k=s.size:=by omega
    have Hm:Hid (s.size=min D 5):=by unfold Hid;omega
    go_wp2_with fail;go_meet;exact ⟨s.size,N,rfl,rfl,hk5,hkD,hks,Hm,hN,HN,rfl⟩
 case rest=>
  obtain ⟨M,N,rfl,rfl,hM5,hMD,hMs,Hm,hN,HN,rfl⟩:=hcut;have hg:=Blk.new w 190 recZ;have hw:Below w.heap.size w (w.alloc (.cells recZ 190)):=(Below.refl _ _).alloc (Nat.le_refl _) _;unfold recZ at hg hw;have hf:=Hhf.out;obtain ⟨hf1,hf2,hf3,hf4⟩:=hf;have hML:(digP s.data.toList).length=M:=by have:=HD.out;have:=Hm.out;omega
  have hMN:dVal (digP s.data.toList)=N:=by
   have:=qeB s.data.toList;rw [this,hML];exact HN.out.symm
  have HFr:Hid (qcE s.data.toList):=⟨hf1,hf2,hf3,hf4⟩;rw [hML]at hf1 hf2 hf4
  have hMlt:M<s.size:=by
   rcases Nat.lt_or_ge M s.size with h|h
   ·exact h
   ·rw [List.getElem?_eq_none (by rw [qaD];exact h)]at hf4;cases hf4
  have h0lt:0<s.size:=by omega
  have e32:s[M]'hMlt=32:=by rw [Lib.data_getElem? s M hMlt]at hf4;exact Option.some.inj hf4
  have e48:s[0]'h0lt≠48:=by
   intro e;apply hf3;rw [List.head?_eq_getElem?,Lib.data_getElem? s 0 h0lt,e]
  have t32:(((s[M]'hMlt).toNat:Int) !=32)=false:=by rw [e32];rfl
  have t48:(((s[0]'h0lt).toNat:Int)==48)=false:=by
   rw [beq_eq_false_iff_ne];intro a;exact e48 (UInt8.toNat_inj.1 (by show _=48;omega))
  have HML:=Lib.hid hML;have HMN:=Lib.hid hMN;clear hf1 hf2 hf3 hf4 hML hMN e32 e48;have hM1:1≤M:=by have:=HFr.out.1;have:=HML.out;omega
  have hM4:M≤4:=by have:=HFr.out.2.1;have:=HML.out;omega
  have tM0:((M:Int)==0)=false:=by rw [beq_eq_false_iff_ne];omega
  have tMs:((M:Int)==(s.size:Int))=false:=by rw [beq_eq_false_iff_ne];omega
  have hsh:s.size<N:=by have:=Hhh.out;rw [HMN.out]at this;exact this
  have HR:Hid (rdV (recR s.data.toList)= .tuple #[.agg #[.string ⟨#[]⟩,.string ⟨#[]⟩],.string ⟨#[]⟩,.int .i64 7]):=by
   unfold Hid recR;rw [if_neg (by simpa using HFr.out),HMN.out,if_pos (by rw [qaD];exact hsh)];rfl
  go_wp2_with fail;refine (HNo7.out _).mono ?_;rintro e1 w1 ⟨rfl,hb1⟩;have hb1':=hg.below hb1 hg.lt;have HW1:=Lib.hid (hw.trans (hb1.mono hw.size));obtain ⟨⟨c0,c1⟩,f0,f1⟩:=blk2 hb1';have HPz:=Lib.hid (Blk.put2 hb1' (.string ⟨#[]⟩) (.string ⟨#[]⟩));clear hb1' hb1;go_wp2_with fail;obtain ⟨⟨c0',c1'⟩,-⟩:=blk2 HPz.out;exact bodyPost_ret (v:= .tuple #[.agg #[.string ⟨#[]⟩,.string ⟨#[]⟩],.string ⟨#[]⟩,.int .i64 7]) (by simp [results,Tryz.results216,go_sem, *]) rfl ⟨by rw [HR.out],Below.set2 HW1.out (Nat.le_refl _) _ _⟩
set_option maxHeartbeats 2000000 in
theorem qyD (s:ByteArray) (w:World) (T:Tab w) (hs:s.size≤281474976710656) (hf:qcE s.data.toList) (hh:dVal (digP s.data.toList)≤s.size) (hl:dVal (digP s.data.toList)<(digP s.data.toList).length+2):
  Calls Tryz.prog 216 #[.string s] w fun e w'=>e= .returned (rdV (recR s.data.toList))∧Below w.heap.size w w':=by
 have Hhf:=Lib.hid hf;clear hf;have Hhh:=Lib.hid hh;clear hh;have Hhl:=Lib.hid hl;clear hl;have HNo:=Lib.hid fun W=>qd4 3 W;have HNo7:=Lib.hid fun W=>qd4 7 W;have HAt:=Lib.hid (qnI s);have HEnd:=Lib.hid (qjJ s);have HV:=Lib.hid fun k hk (hk5:k≤5)=>qhA s.data.toList k 5 hk hk5;have HSt:=Lib.hid (qhB s);have hDs:(digP s.data.toList).length≤s.size:=by have:=qkO s.data.toList;rw [qaD]at this;exact this
 obtain ⟨D,HD⟩:=qaA (digP s.data.toList).length;rw [HD.out]at HAt HEnd HV hDs;go_enter Tryz.func216,Tryz.ntmps216
 go_upto_block 0 with fail
 go_cut [6,7] (fun s6 s7 wx=> ∃M N:Nat,s6= .int .i64 (M:Int)∧s7= .int .i64 (N:Int)∧M≤5∧M≤D∧M≤s.size∧Hid (M=min D 5)∧N<100000∧Hid (N=dVal (s.data.toList.take M))∧wx=w.alloc (.cells recZ 190))
 case first=>
  go_wp2_with fail
  go_loop [6,7] (fun i o=> ∃k N:Nat,i= .int .i64 (k:Int)∧o= .int .i64 (N:Int)∧k≤D∧k≤5∧k≤s.size∧N<100000∧Hid (N=dVal (s.data.toList.take k))) (fun i _=>s.size-(intOf i).toNat)
  case atStart=>exact ⟨0,0,rfl,rfl,Nat.zero_le _,by omega,Nat.zero_le _,by omega,rfl⟩
  case round=>
   obtain ⟨k,N,rfl,rfl,hkD,hk5,hks,hN,HN⟩:=hrel
   by_cases hlt:k<s.size
   ·obtain ⟨c,hc⟩: ∃c:UInt8,s[k]=c:=⟨_,rfl⟩;have hcu:=qlU c
    by_cases hd:isD c=true
    ·obtain ⟨d1,d2⟩:=qmU hd
     have hkD':k<D:=by
      rcases Nat.lt_or_ge k D with h|h
      ·exact h
      ·exfalso;obtain rfl:k=D:=by omega
       have:=HEnd.out hlt;rw [hc,hd]at this;cases this
     by_cases h5:k<5
     ·have HN1:Hid (10*N+(c.toNat-48)=dVal (s.data.toList.take (k+1))):=by
       unfold Hid;rw [HSt.out k hlt,hc,←HN.out]
      have hN1:10*N+(c.toNat-48)<100000:=by
       rw [HN1.out];exact HV.out (k+1) (by omega) (by omega)
      have e1:(10:Int)*(N:Int)+((c.toNat:Int) -48)=((10*N+(c.toNat-48):Nat):Int):=by omega
      have q1:(48:Int)≤(c.toNat:Int):=by omega
      have q2:(c.toNat:Int)≤57:=by omega
      clear hd;go_wp2_with fail;go_round
      case rel=>exact ⟨k+1,10*N+(c.toNat-48),by go_num,by first|(rw [e1])|(congr 1),by omega,by omega,by omega,hN1,HN1⟩
      case measure=>simp [intOf];omega
     ·have q1:(48:Int)≤(c.toNat:Int):=by omega
      have q2:(c.toNat:Int)≤57:=by omega
      have q3: ¬(k:Int)<5:=by omega
      have Hm:Hid (k=min D 5):=by unfold Hid;omega
      clear hd;go_wp2_with fail;go_meet;exact ⟨k,N,rfl,rfl,hk5,hkD,hks,Hm,hN,HN,rfl⟩
    ·have Hm:Hid (k=min D 5):=by
      unfold Hid;rcases Nat.lt_or_ge k D with h|h
      ·exfalso;obtain ⟨h1,h2⟩:=HAt.out k h;rw [hc]at h2;exact hd h2
      ·omega
     have hd': ¬(48≤c.toNat∧c.toNat≤57):=fun h=>hd (decide_eq_true h);rcases (show (c.toNat:Int)<48∨((48:Int)≤(c.toNat:Int)∧57<(c.toNat:Int)) by omega)with q|⟨q,q2⟩
     all_goals
      clear hd hd';go_wp2_with fail;go_meet;exact ⟨k,N,rfl,rfl,hk5,hkD,hks,Hm,hN,HN,rfl⟩
   ·obtain rfl:k=s.size:=by omega
    have Hm:Hid (s.size=min D 5):=by unfold Hid;omega
    go_wp2_with fail;go_meet;exact ⟨s.size,N,rfl,rfl,hk5,hkD,hks,Hm,hN,HN,rfl⟩
 case rest=>
  obtain ⟨M,N,rfl,rfl,hM5,hMD,hMs,Hm,hN,HN,rfl⟩:=hcut;have hg:=Blk.new w 190 recZ;have hw:Below w.heap.size w (w.alloc (.cells recZ 190)):=(Below.refl _ _).alloc (Nat.le_refl _) _;unfold recZ at hg hw;have hf:=Hhf.out;obtain ⟨hf1,hf2,hf3,hf4⟩:=hf;have hML:(digP s.data.toList).length=M:=by have:=HD.out;have:=Hm.out;omega
  have hMN:dVal (digP s.data.toList)=N:=by
   have:=qeB s.data.toList;rw [this,hML];exact HN.out.symm
  have HFr:Hid (qcE s.data.toList):=⟨hf1,hf2,hf3,hf4⟩;rw [hML]at hf1 hf2 hf4
  have hMlt:M<s.size:=by
   rcases Nat.lt_or_ge M s.size with h|h
   ·exact h
   ·rw [List.getElem?_eq_none (by rw [qaD];exact h)]at hf4;cases hf4
  have h0lt:0<s.size:=by omega
  have e32:s[M]'hMlt=32:=by rw [Lib.data_getElem? s M hMlt]at hf4;exact Option.some.inj hf4
  have e48:s[0]'h0lt≠48:=by
   intro e;apply hf3;rw [List.head?_eq_getElem?,Lib.data_getElem? s 0 h0lt,e]
  have t32:(((s[M]'hMlt).toNat:Int) !=32)=false:=by rw [e32];rfl
  have t48:(((s[0]'h0lt).toNat:Int)==48)=false:=by
   rw [beq_eq_false_iff_ne];intro a;exact e48 (UInt8.toNat_inj.1 (by show _=48;omega))
  have HML:=Lib.hid hML;have HMN:=Lib.hid hMN;clear hf1 hf2 hf3 hf4 hML hMN e32 e48;have hM1:1≤M:=by have:=HFr.out.1;have:=HML.out;omega
  have hM4:M≤4:=by have:=HFr.out.2.1;have:=HML.out;omega
  have tM0:((M:Int)==0)=false:=by rw [beq_eq_false_iff_ne];omega
  have tMs:((M:Int)==(s.size:Int))=false:=by rw [beq_eq_false_iff_ne];omega
  have hsh: ¬s.size<N:=by have:=Hhh.out;rw [HMN.out]at this;omega
  have hlow:N<M+2:=by have:=Hhl.out;rw [HMN.out,HML.out]at this;exact this
  have HR:Hid (rdV (recR s.data.toList)= .tuple #[.agg #[.string ⟨#[]⟩,.string ⟨#[]⟩],.string ⟨#[]⟩,.int .i64 3]):=by
   unfold Hid recR;rw [if_neg (by simpa using HFr.out),HMN.out,if_neg (by rw [qaD];exact hsh),HML.out,if_pos (.inl hlow)];rfl
  go_wp2_with fail;refine (HNo.out _).mono ?_;rintro e1 w1 ⟨rfl,hb1⟩;have hb1':=hg.below hb1 hg.lt;have HW1:=Lib.hid (hw.trans (hb1.mono hw.size));obtain ⟨⟨c0,c1⟩,f0,f1⟩:=blk2 hb1';have HPz:=Lib.hid (Blk.put2 hb1' (.string ⟨#[]⟩) (.string ⟨#[]⟩));clear hb1' hb1;go_wp2_with fail;obtain ⟨⟨c0',c1'⟩,-⟩:=blk2 HPz.out;exact bodyPost_ret (v:= .tuple #[.agg #[.string ⟨#[]⟩,.string ⟨#[]⟩],.string ⟨#[]⟩,.int .i64 3]) (by simp [results,Tryz.results216,go_sem, *]) rfl ⟨by rw [HR.out],Below.set2 HW1.out (Nat.le_refl _) _ _⟩
set_option maxHeartbeats 2000000 in
theorem qyC (s:ByteArray) (w:World) (T:Tab w) (hs:s.size≤281474976710656) (hf:qcE s.data.toList) (hh:dVal (digP s.data.toList)≤s.size) (hl:(digP s.data.toList).length+2≤dVal (digP s.data.toList)) (ht:s.data.toList[dVal (digP s.data.toList) -1]?≠some 10):
  Calls Tryz.prog 216 #[.string s] w fun e w'=>e= .returned (rdV (recR s.data.toList))∧Below w.heap.size w w':=by
 have Hhf:=Lib.hid hf;clear hf;have Hhh:=Lib.hid hh;clear hh;have Hhl:=Lib.hid hl;clear hl;have Hht:=Lib.hid ht;clear ht;have HNo:=Lib.hid fun W=>qd4 3 W;have HNo7:=Lib.hid fun W=>qd4 7 W;have HAt:=Lib.hid (qnI s);have HEnd:=Lib.hid (qjJ s);have HV:=Lib.hid fun k hk (hk5:k≤5)=>qhA s.data.toList k 5 hk hk5;have HSt:=Lib.hid (qhB s);have hDs:(digP s.data.toList).length≤s.size:=by have:=qkO s.data.toList;rw [qaD]at this;exact this
 obtain ⟨D,HD⟩:=qaA (digP s.data.toList).length;rw [HD.out]at HAt HEnd HV hDs;go_enter Tryz.func216,Tryz.ntmps216
 go_upto_block 0 with fail
 go_cut [6,7] (fun s6 s7 wx=> ∃M N:Nat,s6= .int .i64 (M:Int)∧s7= .int .i64 (N:Int)∧M≤5∧M≤D∧M≤s.size∧Hid (M=min D 5)∧N<100000∧Hid (N=dVal (s.data.toList.take M))∧wx=w.alloc (.cells recZ 190))
 case first=>
  go_wp2_with fail
  go_loop [6,7] (fun i o=> ∃k N:Nat,i= .int .i64 (k:Int)∧o= .int .i64 (N:Int)∧k≤D∧k≤5∧k≤s.size∧N<100000∧Hid (N=dVal (s.data.toList.take k))) (fun i _=>s.size-(intOf i).toNat)
  case atStart=>exact ⟨0,0,rfl,rfl,Nat.zero_le _,by omega,Nat.zero_le _,by omega,rfl⟩
  case round=>
   obtain ⟨k,N,rfl,rfl,hkD,hk5,hks,hN,HN⟩:=hrel
   by_cases hlt:k<s.size
   ·obtain ⟨c,hc⟩: ∃c:UInt8,s[k]=c:=⟨_,rfl⟩;have hcu:=qlU c
    by_cases hd:isD c=true
    ·obtain ⟨d1,d2⟩:=qmU hd
     have hkD':k<D:=by
      rcases Nat.lt_or_ge k D with h|h
      ·exact h
      ·exfalso;obtain rfl:k=D:=by omega
       have:=HEnd.out hlt;rw [hc,hd]at this;cases this
     by_cases h5:k<5
     ·have HN1:Hid (10*N+(c.toNat-48)=dVal (s.data.toList.take (k+1))):=by
       unfold Hid;rw [HSt.out k hlt,hc,←HN.out]
      have hN1:10*N+(c.toNat-48)<100000:=by
       rw [HN1.out];exact HV.out (k+1) (by omega) (by omega)
      have e1:(10:Int)*(N:Int)+((c.toNat:Int) -48)=((10*N+(c.toNat-48):Nat):Int):=by omega
      have q1:(48:Int)≤(c.toNat:Int):=by omega
      have q2:(c.toNat:Int)≤57:=by omega
      clear hd;go_wp2_with fail;go_round
      case rel=>exact ⟨k+1,10*N+(c.toNat-48),by go_num,by first|(rw [e1])|(congr 1),by omega,by omega,by omega,hN1,HN1⟩
      case measure=>simp [intOf];omega
     ·have q1:(48:Int)≤(c.toNat:Int):=by omega
      have q2:(c.toNat:Int)≤57:=by omega
      have q3: ¬(k:Int)<5:=by omega
      have Hm:Hid (k=min D 5):=by unfold Hid;omega
      clear hd;go_wp2_with fail;go_meet;exact ⟨k,N,rfl,rfl,hk5,hkD,hks,Hm,hN,HN,rfl⟩
    ·have Hm:Hid (k=min D 5):=by
      unfold Hid;rcases Nat.lt_or_ge k D with h|h
      ·exfalso;obtain ⟨h1,h2⟩:=HAt.out k h;rw [hc]at h2;exact hd h2
      ·omega
     have hd': ¬(48≤c.toNat∧c.toNat≤57):=fun h=>hd (decide_eq_true h);rcases (show (c.toNat:Int)<48∨((48:Int)≤(c.toNat:Int)∧57<(c.toNat:Int)) by omega)with q|⟨q,q2⟩
     all_goals
      clear hd hd';go_wp2_with fail;go_meet;exact ⟨k,N,rfl,rfl,hk5,hkD,hks,Hm,hN,HN,rfl⟩
   ·obtain rfl:k=s.size:=by omega
    have Hm:Hid (s.size=min D 5):=by unfold Hid;omega
    go_wp2_with fail;go_meet;exact ⟨s.size,N,rfl,rfl,hk5,hkD,hks,Hm,hN,HN,rfl⟩
 case rest=>
  obtain ⟨M,N,rfl,rfl,hM5,hMD,hMs,Hm,hN,HN,rfl⟩:=hcut;have hg:=Blk.new w 190 recZ;have hw:Below w.heap.size w (w.alloc (.cells recZ 190)):=(Below.refl _ _).alloc (Nat.le_refl _) _;unfold recZ at hg hw;have hf:=Hhf.out;obtain ⟨hf1,hf2,hf3,hf4⟩:=hf;have hML:(digP s.data.toList).length=M:=by have:=HD.out;have:=Hm.out;omega
  have hMN:dVal (digP s.data.toList)=N:=by
   have:=qeB s.data.toList;rw [this,hML];exact HN.out.symm
  have HFr:Hid (qcE s.data.toList):=⟨hf1,hf2,hf3,hf4⟩;rw [hML]at hf1 hf2 hf4
  have hMlt:M<s.size:=by
   rcases Nat.lt_or_ge M s.size with h|h
   ·exact h
   ·rw [List.getElem?_eq_none (by rw [qaD];exact h)]at hf4;cases hf4
  have h0lt:0<s.size:=by omega
  have e32:s[M]'hMlt=32:=by rw [Lib.data_getElem? s M hMlt]at hf4;exact Option.some.inj hf4
  have e48:s[0]'h0lt≠48:=by
   intro e;apply hf3;rw [List.head?_eq_getElem?,Lib.data_getElem? s 0 h0lt,e]
  have t32:(((s[M]'hMlt).toNat:Int) !=32)=false:=by rw [e32];rfl
  have t48:(((s[0]'h0lt).toNat:Int)==48)=false:=by
   rw [beq_eq_false_iff_ne];intro a;exact e48 (UInt8.toNat_inj.1 (by show _=48;omega))
  have HML:=Lib.hid hML;have HMN:=Lib.hid hMN;clear hf1 hf2 hf3 hf4 hML hMN e32 e48;have hM1:1≤M:=by have:=HFr.out.1;have:=HML.out;omega
  have hM4:M≤4:=by have:=HFr.out.2.1;have:=HML.out;omega
  have tM0:((M:Int)==0)=false:=by rw [beq_eq_false_iff_ne];omega
  have tMs:((M:Int)==(s.size:Int))=false:=by rw [beq_eq_false_iff_ne];omega
  have hsh: ¬s.size<N:=by have:=Hhh.out;rw [HMN.out]at this;omega
  have hlow: ¬N<M+2:=by have:=Hhl.out;rw [HMN.out,HML.out]at this;omega
  have hNlt:N-1<s.size:=by omega
  obtain ⟨x,hx⟩: ∃x:UInt8,s[N-1]'hNlt=x:=⟨_,rfl⟩;have yN:((N:Int) -1)=((N-1:Nat):Int):=by omega
  have hgx:s.data.toList[N-1]?=some x:=by rw [Lib.data_getElem? s (N-1) hNlt,hx]
  have hx10:x≠10:=by have:=Hht.out;rw [HMN.out,hgx]at this;exact fun a=>this (congrArg some a)
  have HR:Hid (rdV (recR s.data.toList)= .tuple #[.agg #[.string ⟨#[]⟩,.string ⟨#[]⟩],.string ⟨#[]⟩,.int .i64 3]):=by
   unfold Hid recR;rw [if_neg (by simpa using HFr.out),HMN.out,if_neg (by rw [qaD];exact hsh),HML.out,if_pos (.inr (by rw [hgx];exact fun a=>hx10 (Option.some.inj a)))];rfl
  have tx:((x.toNat:Int) !=10)=true:=by
   simp only [bne_iff_ne,ne_eq];intro a;exact hx10 (UInt8.toNat_inj.1 (by show _=10;omega))
  clear hgx hx10;go_wp2_with fail;refine (HNo.out _).mono ?_;rintro e1 w1 ⟨rfl,hb1⟩;have hb1':=hg.below hb1 hg.lt;have HW1:=Lib.hid (hw.trans (hb1.mono hw.size));obtain ⟨⟨c0,c1⟩,f0,f1⟩:=blk2 hb1';have HPz:=Lib.hid (Blk.put2 hb1' (.string ⟨#[]⟩) (.string ⟨#[]⟩));clear hb1' hb1;go_wp2_with fail;obtain ⟨⟨c0',c1'⟩,-⟩:=blk2 HPz.out;exact bodyPost_ret (v:= .tuple #[.agg #[.string ⟨#[]⟩,.string ⟨#[]⟩],.string ⟨#[]⟩,.int .i64 3]) (by simp [results,Tryz.results216,go_sem, *]) rfl ⟨by rw [HR.out],Below.set2 HW1.out (Nat.le_refl _) _ _⟩
theorem qxC (s:ByteArray) (a b:Nat):(s.extract a b).data.toList=(s.data.toList.take b).drop a:=by
 rw [ByteArray.data_extract,Array.toList_extract];simp [List.extract,List.drop_take]
set_option maxHeartbeats 2000000 in
theorem quL (s:ByteArray) (w:World) (T:Tab w) (hs:s.size≤281474976710656) (hf:qcE s.data.toList) (hh:dVal (digP s.data.toList)≤s.size) (hl:(digP s.data.toList).length+2≤dVal (digP s.data.toList)) (ht:s.data.toList[dVal (digP s.data.toList) -1]?=some 10):
  Calls Tryz.prog 216 #[.string s] w fun e w'=>e= .returned (rdV (recR s.data.toList))∧Below w.heap.size w w':=by
 have Hhf:=Lib.hid hf;clear hf;have Hhh:=Lib.hid hh;clear hh;have Hhl:=Lib.hid hl;clear hl;have Hht:=Lib.hid ht;clear ht;have HNo:=Lib.hid fun W=>qd4 3 W;have HNo7:=Lib.hid fun W=>qd4 7 W;have HAt:=Lib.hid (qnI s);have HEnd:=Lib.hid (qjJ s);have HV:=Lib.hid fun k hk (hk5:k≤5)=>qhA s.data.toList k 5 hk hk5;have HSt:=Lib.hid (qhB s);have hDs:(digP s.data.toList).length≤s.size:=by have:=qkO s.data.toList;rw [qaD]at this;exact this
 obtain ⟨D,HD⟩:=qaA (digP s.data.toList).length;rw [HD.out]at HAt HEnd HV hDs;go_enter Tryz.func216,Tryz.ntmps216
 go_upto_block 0 with fail
 go_cut [6,7] (fun s6 s7 wx=> ∃M N:Nat,s6= .int .i64 (M:Int)∧s7= .int .i64 (N:Int)∧M≤5∧M≤D∧M≤s.size∧Hid (M=min D 5)∧N<100000∧Hid (N=dVal (s.data.toList.take M))∧wx=w.alloc (.cells recZ 190))
 case first=>
  go_wp2_with fail
  go_loop [6,7] (fun i o=> ∃k N:Nat,i= .int .i64 (k:Int)∧o= .int .i64 (N:Int)∧k≤D∧k≤5∧k≤s.size∧N<100000∧Hid (N=dVal (s.data.toList.take k))) (fun i _=>s.size-(intOf i).toNat)
  case atStart=>exact ⟨0,0,rfl,rfl,Nat.zero_le _,by omega,Nat.zero_le _,by omega,rfl⟩
  case round=>
   obtain ⟨k,N,rfl,rfl,hkD,hk5,hks,hN,HN⟩:=hrel
   by_cases hlt:k<s.size
   ·obtain ⟨c,hc⟩: ∃c:UInt8,s[k]=c:=⟨_,rfl⟩;have hcu:=qlU c
    by_cases hd:isD c=true
    ·obtain ⟨d1,d2⟩:=qmU hd
     have hkD':k<D:=by
      rcases Nat.lt_or_ge k D with h|h
      ·exact h
      ·exfalso;obtain rfl:k=D:=by omega
       have:=HEnd.out hlt;rw [hc,hd]at this;cases this
     by_cases h5:k<5
     ·have HN1:Hid (10*N+(c.toNat-48)=dVal (s.data.toList.take (k+1))):=by
       unfold Hid;rw [HSt.out k hlt,hc,←HN.out]
      have hN1:10*N+(c.toNat-48)<100000:=by
       rw [HN1.out];exact HV.out (k+1) (by omega) (by omega)
      have e1:(10:Int)*(N:Int)+((c.toNat:Int) -48)=((10*N+(c.toNat-48):Nat):Int):=by omega
      have q1:(48:Int)≤(c.toNat:Int):=by omega
      have q2:(c.toNat:Int)≤57:=by omega
      clear hd;go_wp2_with fail;go_round
      case rel=>exact ⟨k+1,10*N+(c.toNat-48),by go_num,by first|(rw [e1])|(congr 1),by omega,by omega,by omega,hN1,HN1⟩
      case measure=>simp [intOf];omega
     ·have q1:(48:Int)≤(c.toNat:Int):=by omega
      have q2:(c.toNat:Int)≤57:=by omega
      have q3: ¬(k:Int)<5:=by omega
      have Hm:Hid (k=min D 5):=by unfold Hid;omega
      clear hd;go_wp2_with fail;go_meet;exact ⟨k,N,rfl,rfl,hk5,hkD,hks,Hm,hN,HN,rfl⟩
    ·have Hm:Hid (k=min D 5):=by
      unfold Hid;rcases Nat.lt_or_ge k D with h|h
      ·exfalso;obtain ⟨h1,h2⟩:=HAt.out k h;rw [hc]at h2;exact hd h2
      ·omega
     have hd': ¬(48≤c.toNat∧c.toNat≤57):=fun h=>hd (decide_eq_true h);rcases (show (c.toNat:Int)<48∨((48:Int)≤(c.toNat:Int)∧57<(c.toNat:Int)) by omega)with q|⟨q,q2⟩
     all_goals
      clear hd hd';go_wp2_with fail;go_meet;exact ⟨k,N,rfl,rfl,hk5,hkD,hks,Hm,hN,HN,rfl⟩
   ·obtain rfl:k=s.size:=by omega
    have Hm:Hid (s.size=min D 5):=by unfold Hid;omega
    go_wp2_with fail;go_meet;exact ⟨s.size,N,rfl,rfl,hk5,hkD,hks,Hm,hN,HN,rfl⟩
 case rest=>
  obtain ⟨M,N,rfl,rfl,hM5,hMD,hMs,Hm,hN,HN,rfl⟩:=hcut;have hg:=Blk.new w 190 recZ;have hw:Below w.heap.size w (w.alloc (.cells recZ 190)):=(Below.refl _ _).alloc (Nat.le_refl _) _;unfold recZ at hg hw;have hf:=Hhf.out;obtain ⟨hf1,hf2,hf3,hf4⟩:=hf;have hML:(digP s.data.toList).length=M:=by have:=HD.out;have:=Hm.out;omega
  have hMN:dVal (digP s.data.toList)=N:=by
   have:=qeB s.data.toList;rw [this,hML];exact HN.out.symm
  have HFr:Hid (qcE s.data.toList):=⟨hf1,hf2,hf3,hf4⟩;rw [hML]at hf1 hf2 hf4
  have hMlt:M<s.size:=by
   rcases Nat.lt_or_ge M s.size with h|h
   ·exact h
   ·rw [List.getElem?_eq_none (by rw [qaD];exact h)]at hf4;cases hf4
  have h0lt:0<s.size:=by omega
  have e32:s[M]'hMlt=32:=by rw [Lib.data_getElem? s M hMlt]at hf4;exact Option.some.inj hf4
  have e48:s[0]'h0lt≠48:=by
   intro e;apply hf3;rw [List.head?_eq_getElem?,Lib.data_getElem? s 0 h0lt,e]
  have t32:(((s[M]'hMlt).toNat:Int) !=32)=false:=by rw [e32];rfl
  have t48:(((s[0]'h0lt).toNat:Int)==48)=false:=by
   rw [beq_eq_false_iff_ne];intro a;exact e48 (UInt8.toNat_inj.1 (by show _=48;omega))
  have HML:=Lib.hid hML;have HMN:=Lib.hid hMN;clear hf1 hf2 hf3 hf4 hML hMN e32 e48;have hM1:1≤M:=by have:=HFr.out.1;have:=HML.out;omega
  have hM4:M≤4:=by have:=HFr.out.2.1;have:=HML.out;omega
  have tM0:((M:Int)==0)=false:=by rw [beq_eq_false_iff_ne];omega
  have tMs:((M:Int)==(s.size:Int))=false:=by rw [beq_eq_false_iff_ne];omega
  have hsh: ¬s.size<N:=by have:=Hhh.out;rw [HMN.out]at this;omega
  have hlow: ¬N<M+2:=by have:=Hhl.out;rw [HMN.out,HML.out]at this;omega
  have hNlt:N-1<s.size:=by omega
  obtain ⟨x,hx⟩: ∃x:UInt8,s[N-1]'hNlt=x:=⟨_,rfl⟩;have yN:((N:Int) -1)=((N-1:Nat):Int):=by omega
  have hgx:s.data.toList[N-1]?=some x:=by rw [Lib.data_getElem? s (N-1) hNlt,hx]
  have hx10:x=10:=by have:=Hht.out;rw [HMN.out,hgx]at this;exact Option.some.inj this
  subst hx10;obtain ⟨L,HL⟩:=qaA (qcK s.data.toList)
  have HLl:Hid (L.length=N-1-(M+1)):=by
   unfold Hid;rw [←HL.out];unfold qcK;rw [HML.out,HMN.out,List.length_drop,List.length_take,qaD];omega
  have HLd:Hid (L=(s.data.toList.take (N-1)).drop (M+1)):=by unfold Hid;rw [←HL.out];unfold qcK;rw [HML.out,HMN.out]
  have HLg:Hid (∀i (h1:i<L.length) (h2:M+1+i<s.size),L[i]=s[M+1+i]'h2):=by
   intro i h1 h2;simp only [HLd.out,List.getElem_drop,List.getElem_take];exact qtA s _ h2
  have HRb:Hid (recR s.data.toList=if hasB 61 L=false then ([], [], [],3)
    else if chkR (L.take (pos 61 L)) (L.drop (pos 61 L+1))≠0 then ([], [], [],chkR (L.take (pos 61 L)) (L.drop (pos 61 L+1)))
    else if recL (L.take (pos 61 L)) (L.drop (pos 61 L+1))≠s.data.toList.take N then ([], [], [],3)
    else (L.take (pos 61 L),L.drop (pos 61 L+1),s.data.toList.drop N,0)):=by
   unfold Hid recR;rw [if_neg (by simpa using HFr.out),HMN.out,if_neg (by rw [qaD];exact hsh),HML.out,if_neg ?_,HL.out];rintro (a|a)
   ·exact hlow a
   ·rw [hgx]at a;exact a rfl
  have hq1:=qeK 61 L;have HQ:=Lib.hid (qdA 61 L);have HNe:=Lib.hid fun k h1 h2=>q1L 61 L k h1 h2;have HGt:=Lib.hid fun h=>qj0 61 L h;obtain ⟨q,Hq⟩:=qaA (pos 61 L);rw [Hq.out,HLl.out]at hq1;rw [Hq.out]at HQ HNe HRb;have hgx':=Lib.hid hgx;clear hgx;obtain ⟨N1,hN1⟩: ∃N1,N=N1+1:=⟨N-1,by omega⟩;have hN1':N-1=N1:=by omega
  obtain ⟨E,hE⟩: ∃E,E=M+1+q:=⟨_,rfl⟩;have hE1:E≤N1:=by omega
  have hE0:M+1≤E:=by omega
  have hNs:N1<s.size:=by omega
  have HNe':Hid (∀p (h:p<s.size),M+1≤p→p<E→s[p]≠61):=by
   intro p h h1 h2;have hl:p-(M+1)<L.length:=by rw [HLl.out];omega
   have h3:=HNe.out (p-(M+1)) (by omega) hl;rw [HLg.out _ hl (by omega)]at h3;have e:M+1+(p-(M+1))=p:=by omega
   simp only [e]at h3;exact h3
  have HGt':Hid (∀h:E<s.size,E<N1→s[E]=61):=by
   intro h h1;have hl:q<L.length:=by rw [HLl.out];omega
   have h3:=HGt.out (by rw [Hq.out];exact hl);simp only [Hq.out]at h3;rw [HLg.out q hl (by omega)]at h3;simp only [←hE]at h3;exact h3
  have HQ':Hid (hasB 61 L=decide (E<N1)):=by
   unfold Hid;rw [HQ.out,HLl.out,Bool.eq_iff_iff,decide_eq_true_eq,decide_eq_true_eq];omega
  have HHE:=Lib.hid hE;have HHN:=Lib.hid hN1;have yN1:(N:Int) -1=(N1:Int):=by omega
  have hEs:E≤s.size:=by omega
  have hN10:N≤s.size:=by omega
  have hx':s[N1]'hNs=10:=by have h:=hx;simp only [hN1']at h;exact h
  clear hx hE hN1 yN hNlt hq1 hsh hlow hN1' HQ HNe HGt
  go_upto_block 2 with fail
  go_cut [8] (fun s8 wx=>s8= .int .i64 (E:Int)∧wx=w.alloc (.cells recZ 190))
  case first=>
   go_wp2_with fail
   go_loop [8] (fun i=> ∃p:Nat,M+1≤p∧p≤E∧i= .int .i64 (p:Int)) (fun i=>s.size-(intOf i).toNat)
   case atStart=>exact ⟨M+1,Nat.le_refl _,hE0,by go_num⟩
   case round=>
    obtain ⟨p,hp0,hpE,rfl⟩:=hrel
    by_cases hlt:p<E
    ·have hps:p<s.size:=by omega
     have hpN:(p:Int)<(N1:Int):=by omega
     obtain ⟨c,hc⟩: ∃c:UInt8,s[p]=c:=⟨_,rfl⟩;have hcu:=qlU c
     have tc:((c.toNat:Int) !=61)=true:=by
      simp only [bne_iff_ne,ne_eq];intro a;exact HNe'.out p hps hp0 hlt (by rw [hc];exact UInt8.toNat_inj.1 (by show _=61;omega))
     go_wp2_with fail;go_round
     case rel=>exact ⟨p+1,by omega,by omega,by go_num⟩
     case measure=>simp [intOf];omega
    ·obtain rfl:p=E:=by omega
     by_cases hend:p=N1
     ·subst hend;have hpN: ¬(p:Int)<(p:Int):=by omega
      go_wp2_with fail;go_meet;exact ⟨rfl,rfl⟩
     ·have hpN:(p:Int)<(N1:Int):=by omega
      have hps:p<s.size:=by omega
      have hc:=HGt'.out hps (by omega);have tc:(((s[p]'hps).toNat:Int) !=61)=false:=by rw [hc];rfl
      clear hc;go_wp2_with fail;go_meet;exact ⟨rfl,rfl⟩
  case rest=>
   obtain ⟨rfl,rfl⟩:=hcut
   by_cases hend:E=N1
   ·have HR:Hid (rdV (recR s.data.toList)= .tuple #[.agg #[.string ⟨#[]⟩,.string ⟨#[]⟩],.string ⟨#[]⟩,.int .i64 3]):=by
     unfold Hid;rw [HRb.out,if_pos (by rw [HQ'.out];exact decide_eq_false (by omega))];rfl
    subst hend;go_wp2_with fail;refine (HNo.out _).mono ?_;rintro e1 w1 ⟨rfl,hb1⟩;have hb1':=hg.below hb1 hg.lt;have HW1:=Lib.hid (hw.trans (hb1.mono hw.size));obtain ⟨⟨c0,c1⟩,f0,f1⟩:=blk2 hb1';have HPz:=Lib.hid (Blk.put2 hb1' (.string ⟨#[]⟩) (.string ⟨#[]⟩));clear hb1' hb1;go_wp2_with fail;obtain ⟨⟨c0',c1'⟩,-⟩:=blk2 HPz.out;exact bodyPost_ret (v:= .tuple #[.agg #[.string ⟨#[]⟩,.string ⟨#[]⟩],.string ⟨#[]⟩,.int .i64 3]) (by simp [results,Tryz.results216,go_sem, *]) rfl ⟨by rw [HR.out],Below.set2 HW1.out (Nat.le_refl _) _ _⟩
   ·have tE:((E:Int)==(N1:Int))=false:=by rw [beq_eq_false_iff_ne];omega
    have hEN:E<N1:=by omega
    have HRc:=Lib.hid (HRb.out.trans (if_neg (by rw [HQ'.out];simpa using hEN)))
    have HK:Hid (s.extract (M+1) E=bs (L.take q)):=by
     refine qh7 ?_;rw [qxC,HLd.out,HHN.out,Nat.add_sub_cancel,List.take_drop,List.take_take,Nat.min_eq_left (by have:=HHE.out;omega),←HHE.out]
    have HV2:Hid (s.extract (E+1) N1=bs (L.drop (q+1))):=by
     refine qh7 ?_;rw [qxC,HLd.out,HHN.out,Nat.add_sub_cancel,List.drop_drop,HHE.out];congr 1
    obtain ⟨K,HKn⟩:=qaA (bs (L.take q));obtain ⟨V,HVn⟩:=qaA (bs (L.drop (q+1)));rw [HKn.out]at HK;rw [HVn.out]at HV2;have s1:IntKind.i64.wrap ((M:Int)+1)=(M:Int)+1:=IntWalk.i64_in _ (by omega);have s2:IntKind.i64.wrap ((E:Int)+1)=(E:Int)+1:=IntWalk.i64_in _ (by omega);have u1:((M:Int)+1).toNat=M+1:=by omega
    have u2:((E:Int)+1).toNat=E+1:=by omega
    have v1:(0:Int)≤(M:Int)+1:=by omega
    have v2:(0:Int)≤(E:Int)+1:=by omega
    have x1:(M:Int)+1≤(E:Int):=by omega
    have x2:(E:Int)+1≤(N1:Int):=by omega
    have x3:(N1:Int)≤(s.size:Int):=by omega
    have x4:(E:Int)≤(s.size:Int):=by omega
    clear hend;go_upto_region 18 with fail
    go_cut [9] (fun s9 wx=> ∃g:Nat,s9= .pointer (some ⟨g,0,none⟩)∧g≠w.heap.size∧Blk wx g 190 #[.string K,.string V]∧Blk wx w.heap.size 190 recZ∧Below w.heap.size w wx)
    case first=>
     go_region
     all_goals
      go_wp2_with fail;go_meet;rw [HK.out,HV2.out];have hn:=Blk.new (w.alloc (.cells recZ 190)) 190 #[.string K,.string V];have hsz:(w.alloc (.cells recZ 190)).heap.size=w.heap.size+1:=by simp
      rw [hsz]at hn;exact ⟨_,rfl,by omega,hn,Blk.alloc (Blk.new w 190 recZ) _,((((Below.refl _ _).alloc (Nat.le_refl _) _).alloc (by simp) _).drew)⟩
    case rest=>
     obtain ⟨g,rfl,hgne,hb9,hbz,hw9⟩:=hcut;obtain ⟨⟨a0,a1⟩,-⟩:=blk2 hb9;have HRT:=Lib.hid fun W TW=>qkZ K V W TW (by rw [←HKn.out,qaB,List.length_take,HLl.out];unfold maxLen;omega) (by rw [←HVn.out,qaB,List.length_drop,HLl.out];unfold maxLen;omega);rw [show K.data.toList=L.take q by rw [←HKn.out];rfl,show V.data.toList=L.drop (q+1) by rw [←HVn.out];rfl]at HRT;unfold recV at HRT;unfold recZ at hbz;clear s1 s2 u1 u2 v1 v2 x1 x2 x3 x4 HK HV2
     by_cases hc0:chkR (L.take q) (L.drop (q+1))=0
     ·have HRd:=Lib.hid (HRc.out.trans (if_neg (by simpa using hc0)));rw [qiC hc0]at HRT;have HP:Hid ((s.extract 0 N).data.toList=s.data.toList.take N):=qd9 s N
      by_cases hX:recL (L.take q) (L.drop (q+1))=s.data.toList.take N
      ·have HRe:=Lib.hid (HRd.out.trans (if_neg (by simpa using hX)))
       have hne:((bs (recL (L.take q) (L.drop (q+1)))).toList==(s.extract 0 N).toList)=true:=by
        rw [qcQ];exact decide_eq_true (by rw [hX,←HP.out];exact qcJ _)
       obtain ⟨X,HXn⟩:=qaA (bs (recL (L.take q) (L.drop (q+1))));rw [HXn.out]at hne HRT;have HQ:Hid (s.extract N s.size=bs (s.data.toList.drop N)):=qh7 (qcI s N)
       have HR:Hid (rdV (recR s.data.toList)= .tuple #[.agg #[.string K,.string V],.string (bs (s.data.toList.drop N)),.int .i64 0]):=by
        unfold Hid;rw [HRe.out,←HKn.out,←HVn.out];rfl
       obtain ⟨Q,HQn⟩:=qaA (bs (s.data.toList.drop N));rw [HQn.out]at HQ HR;have hNsz:(N:Int)≤(s.size:Int):=by omega
       clear hc0 hX;go_wp2_with fail;refine (HRT.out _ (T.below hw9)).mono ?_;rintro e1 w5 ⟨rfl,hb5⟩;have hbz5:=hbz.below hb5 hbz.lt;have hb95:=hb9.below hb5 hb9.lt;have HW5:=Lib.hid (hw9.trans (hb5.mono hw9.size));clear a0 a1 hb9 hbz hb5;obtain ⟨⟨a0,a1⟩,-⟩:=blk2 hb95;obtain ⟨⟨c0,c1⟩,f0,f1⟩:=blk2 hbz5;have HPz:=Lib.hid (Blk.put2 hbz5 (.string K) (.string V));clear hb95 hbz5;go_upto_region 24 with fail
       go_region
       all_goals
        obtain ⟨⟨c0',c1'⟩,-⟩:=blk2 HPz.out;go_wp2_with fail;exact bodyPost_ret (v:= .tuple #[.agg #[.string K,.string V],.string (s.extract N s.size),.int .i64 0]) (by simp [results,Tryz.results216,go_sem, *]) rfl ⟨by rw [HR.out,HQ.out],(Below.set2 HW5.out (Nat.le_refl _) _ _).drew⟩
      ·have HR:Hid (rdV (recR s.data.toList)= .tuple #[.agg #[.string ⟨#[]⟩,.string ⟨#[]⟩],.string ⟨#[]⟩,.int .i64 3]):=by
        unfold Hid;rw [HRd.out,if_pos hX];rfl
       have hne:((bs (recL (L.take q) (L.drop (q+1)))).toList==(s.extract 0 N).toList)=false:=by
        rw [qcQ];exact decide_eq_false fun e=>hX (by rw [←HP.out,←e];rfl)
       obtain ⟨X,HXn⟩:=qaA (bs (recL (L.take q) (L.drop (q+1))));rw [HXn.out]at hne HRT;clear hc0 hX;go_wp2_with fail;refine (HRT.out _ (T.below hw9)).mono ?_;rintro e1 w5 ⟨rfl,hb5⟩;have hbz5:=hbz.below hb5 hbz.lt;have hw5:=hw9.trans (hb5.mono hw9.size);clear a0 a1 hb9 hbz hb5;go_wp2_with fail;refine (HNo.out _).mono ?_;rintro e1 w1 ⟨rfl,hb1⟩;have hb1':=hbz5.below hb1 hbz5.lt;have HW1:=Lib.hid (hw5.trans (hb1.mono hw5.size));obtain ⟨⟨c0,c1⟩,f0,f1⟩:=blk2 hb1';have HPz:=Lib.hid (Blk.put2 hb1' (.string ⟨#[]⟩) (.string ⟨#[]⟩));clear hb1' hb1;go_wp2_with fail;obtain ⟨⟨c0',c1'⟩,-⟩:=blk2 HPz.out;exact bodyPost_ret (v:= .tuple #[.agg #[.string ⟨#[]⟩,.string ⟨#[]⟩],.string ⟨#[]⟩,.int .i64 3]) (by simp [results,Tryz.results216,go_sem, *]) rfl ⟨by rw [HR.out],Below.set2 HW1.out (Nat.le_refl _) _ _⟩
     ·rw [qp5 hc0]at HRT;have HRd:=Lib.hid (HRc.out.trans (if_pos hc0));obtain ⟨c,Hc⟩:=qaA (chkR (L.take q) (L.drop (q+1)));rw [Hc.out]at HRT HRd hc0
      have HR:Hid (rdV (recR s.data.toList)= .tuple #[.agg #[.string ⟨#[]⟩,.string ⟨#[]⟩],.string ⟨#[]⟩,.int .i64 c]):=by
       unfold Hid;rw [HRd.out];rfl
      have HNoc:=Lib.hid fun W=>qd4 c W;have tc:(c !=0)=true:=by simpa using hc0
      clear hc0;go_wp2_with fail;refine (HRT.out _ (T.below hw9)).mono ?_;rintro e1 w5 ⟨rfl,hb5⟩;have hbz5:=hbz.below hb5 hbz.lt;have hw5:=hw9.trans (hb5.mono hw9.size);clear a0 a1 hb9 hbz hb5;go_wp2_with fail;refine (HNoc.out _).mono ?_;rintro e1 w1 ⟨rfl,hb1⟩;have hb1':=hbz5.below hb1 hbz5.lt;have HW1:=Lib.hid (hw5.trans (hb1.mono hw5.size));obtain ⟨⟨c0,c1⟩,f0,f1⟩:=blk2 hb1';have HPz:=Lib.hid (Blk.put2 hb1' (.string ⟨#[]⟩) (.string ⟨#[]⟩));clear hb1' hb1;go_wp2_with fail;obtain ⟨⟨c0',c1'⟩,-⟩:=blk2 HPz.out;exact bodyPost_ret (v:= .tuple #[.agg #[.string ⟨#[]⟩,.string ⟨#[]⟩],.string ⟨#[]⟩,.int .i64 c]) (by simp [results,Tryz.results216,go_sem, *]) rfl ⟨by rw [HR.out],Below.set2 HW1.out (Nat.le_refl _) _ _⟩
theorem qyE (s:ByteArray) (w:World) (T:Tab w) (hs:s.size≤281474976710656):
  Calls Tryz.prog 216 #[.string s] w fun e w'=>e= .returned (rdV (recR s.data.toList))∧Below w.heap.size w w':=by
 by_cases hf:qcE s.data.toList
 ·by_cases hh:s.size<dVal (digP s.data.toList)
  ·exact qsJ s w T hs hf hh
  ·by_cases hl:dVal (digP s.data.toList)<(digP s.data.toList).length+2
   ·exact qyD s w T hs hf (by omega) hl
   ·by_cases ht:s.data.toList[dVal (digP s.data.toList) -1]?=some 10
    ·exact quL s w T hs hf (by omega) (by omega) ht
    ·exact qyC s w T hs hf (by omega) (by omega) ht
 ·exact qsK s w T hs hf
end Go.Proofs.YtapgoifimhnbdaaGreatDoor
