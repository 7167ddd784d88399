import Derived.Test.YthmlndmlnlfhnaaGreatDoorProg
import Derived.Test.YthmlndmlnlfhnaaGreatDoorChecked
import Derived.Test.YthmlndmlnlfhnaaGreatDoorK0fe30175
set_option maxRecDepth 100000
set_option maxHeartbeats 16000000
namespace Go.Proofs.YthmlndmlnlfhnaaGreatDoor
open Go.Lib (hid)
open Go.RowKit
theorem ji7:Tryz.prog.underlying 35=some (.slice 58):=by kernel_rfl
theorem js6:(Tryz.prog.info? 58).map (fun i=>(i.zero,i.size,i.bytes))=some (some (.agg #[.string ⟨#[]⟩,.int .i64 0,.int .i64 0]),3,32):=by kernel_rfl
theorem yn8:∀ w,(Go.sizeOf 58).run Tryz.prog w = .ok 3 w:=fun _=>by kernel_rfl
theorem yrg (base:Nat) (v:Value) (n i:Nat) (us news:List Value) (vb:Nat) (w:World) (h:w.ownsRow base 58 3 v n us) (h1:∀ u∈us,u.oneCell'=true) (hi:i≤n) (hnl:news.length=3) (h1n:∀ u∈news,u.oneCell'=true)
  (hv:w.heap[vb]? = some (.cells news.toArray 58 (0,0))) (hvb:v.ownBlock≠some vb) (hbig:(n+1)*32≤140737488355328) (hbase:base≤w.heap.size) :
  Calls Tryz.prog 103 #[v,.int .i64 i,.slice (some ⟨vb,0,none⟩) 1 1] w fun e w'=>∃ v',e = .returned v'∧w'.ownsRow base 58 3 v' (n+1) (us.take (i*3) ++ news ++ us.drop (i*3))∧w.grownBy w' v.ownBlock∧jed w v v':=by
 have hnew:∀ j u,news[j]? = some u→w.cell? ((⟨vb,0,none⟩:Addr).add j)=some u:=fun j u hj=>by
  rw [Addr.add_lit,Nat.zero_add];exact jbk hv (by simpa using hj)
 have hul:=h.1;have hsz:(Tryz.prog.info? 58).map (·.size)=some 3:=by
  obtain ⟨i0,hi0,_,h1,_⟩:=info_parts js6;rw [hi0];simp [h1]
 by_cases hin:i=n
 ·subst hin;have et:us.take (i*3)=us:=List.take_of_length_le (by omega);have ed:us.drop (i*3) = []:=List.drop_of_length_le (by omega);rw [et,ed,List.append_nil];have HP:=hid hnew;have HO:=hid h;have hform:∃ A c,v = .slice A i c∧i≤c∧c≤maxLen:=by
   rcases h.2 with ⟨rfl,rfl⟩ | ⟨g,cap,cur,rfl,_,_,h4,h5,_⟩
   ·exact ⟨none,0,rfl,Nat.le_refl _,by unfold maxLen;omega⟩
   ·exact ⟨_,cap,rfl,h4,h5⟩
  obtain ⟨A,c,rfl,hc1,hc2⟩:=hform;unfold maxLen at hc2;clear h hnew et ed hv;by_cases hci:c=i
  ·subst hci;go_enter Tryz.func103,Tryz.ntmps103
   go_wp2_with (at_builtin;refine jav _ rfl _ _ 35 rfl base 58 3 32 (.agg #[.string ⟨#[]⟩,.int .i64 0,.int .i64 0]) ji7 js6 rfl (by decide) _ _ _ rfl HO.out ⟨vb,0,none⟩ 1 1 news rfl (by rw [hnl]) HP.out h1n (by unfold maxLen;omega) hbig hbase ?_;intro v' w' ho hg hm)
   go_ret;exact ⟨v',rfl,ho,hg,hm⟩
  ·go_enter Tryz.func103,Tryz.ntmps103
   go_wp2_with (at_builtin;refine jav _ rfl _ _ 35 rfl base 58 3 32 (.agg #[.string ⟨#[]⟩,.int .i64 0,.int .i64 0]) ji7 js6 rfl (by decide) _ _ _ rfl HO.out ⟨vb,0,none⟩ 1 1 news rfl (by rw [hnl]) HP.out h1n (by unfold maxLen;omega) hbig hbase ?_;intro v' w' ho hg hm)
   go_ret;exact ⟨v',rfl,ho,hg,hm⟩
 ·rcases h.2 with ⟨rfl,rfl⟩ | ⟨g,cap,cur,rfl,hb1,hg,hnc,hcm,hcs,hx⟩
  ·omega
  ·have hgv:g≠vb:=fun e=>hvb (by rw [← e];rfl);have hcm':=hcm;unfold maxLen at hcm';have hgl:=(Array.getElem?_eq_some_iff.1 hg).1;have hvl:=(Array.getElem?_eq_some_iff.1 hv).1;have hi2:i<n:=by omega
   have hlc:cur.toList.length=cap*3:=by simpa using hcs
   have husc:∀ j u,us[j]? = some u→w.cell? ⟨g,j,none⟩=some u:=fun j u hj=>by
    refine jbk hg ?_;rw [← hx] at hj;rw [List.getElem?_take] at hj;split at hj
    ·exact hj
    ·cases hj
   by_cases hroom:n+1≤cap
   ·have hi0:(i*3)≤(n*3):=by omega
    have hp1:=yma (news:=news) hx hi0 (by rw [hlc,hnl];omega);have hp2:=jps (news:=news) hx hi0 (by rw [hlc,hnl];omega);rw [hnl] at hp1 hp2;have hdl:(us.drop (i*3)).length=(n-i)*3:=by rw [List.length_drop,hul];omega
    obtain ⟨cur1,hc1⟩:∃ cur1:List Value,cur1=cur.toList.take ((i*3)+3) ++ us.drop (i*3) ++ cur.toList.drop ((i*3)+3+(us.drop (i*3)).length):=⟨_,rfl⟩;rw [← hc1] at hp1 hp2;have hl1:cur1.length=cap*3:=by rw [hc1];simp only [List.length_append,List.length_take,List.length_drop,hlc,hul];omega
    obtain ⟨cur2,hc2⟩:∃ cur2:List Value,cur2=cur1.take (i*3) ++ news ++ cur1.drop ((i*3)+3):=⟨_,rfl⟩;rw [← hc2] at hp1 hp2;have hov:∀ lb cb,(callFunc 149 #[.slice (some ⟨vb,0,none⟩) 1 1,.slice (some ⟨g,((i+1)*3),none⟩) lb cb]).run Tryz.prog w = .ok (.value (.bool false)) w:=fun lb cb=>by
     rw [run_callFunc_extern Tryz.func149 (by kernel_rfl) (by kernel_rfl) (by kernel_rfl) (e:=Extern.SlicesOverlaps.overlaps #[35,35] #[4]) (by kernel_rfl),
      Lib.run_overlaps_apart w 35 4 58 ji7 3 yn8 ⟨vb,0,none⟩ ⟨g,((i+1)*3),none⟩ 1 1 lb cb (Ne.symm hgv) 58 58 3 cur.size (by simp [World.shape?,hv,hnl]) (by simp [World.shape?,hg]) (by rw [hcs];omega) (by simp [World.frozen?,hv]) (by simp [World.frozen?,hv])]
     rfl
    have hcp1:∀ ty dc sc,(Builtin.copy_ #[35,35] ty #[.slice (some ⟨g,((i+1)*3),none⟩) (n-i) dc,.slice (some ⟨g,(i*3),none⟩) (n+1-i) sc]).run Tryz.prog w.drew = .ok (goInt (Nat.min (n+1-i) (n-i))) (w.drew.setRow g cur1.toArray):=fun ty dc sc=>by
     have:=jcq (P:=Tryz.prog) w.drew 35 35 ty 58 3 g ((i+1)*3) (n-i) dc ⟨g,(i*3),none⟩ (n+1-i) sc cur 58 (us.drop (i*3)) ji7 hsz hg (by rw [hdl];congr 1;simp only [Nat.min_def];split <;> omega)
      (fun j u hj=>by rw [Addr.add_lit];exact husc ((i*3)+j) u (by rwa [List.getElem?_drop] at hj)) (by rw [hdl,hcs];omega) (fun u hu=>h1 u (List.mem_of_mem_drop hu))
     have e1:((i+1)*3)=(i*3)+3:=by omega
     rw [this,hc1]
     try (first | rfl | rw [e1])
    have hg1:(w.drew.setRow g cur1.toArray).heap[g]? = some (.cells cur1.toArray 58 (0,0)):=setRow_heap w.drew g cur _ _ _ hg;have hv1:(w.drew.setRow g cur1.toArray).heap[vb]? = some (.cells news.toArray 58 (0,0)):=((jby w.drew g cur1.toArray).block vb hvl (by intro e;injection e with e;exact hgv e.symm)).trans hv;obtain ⟨W1,hW1⟩:∃ W1,W1=w.drew.setRow g cur1.toArray:=⟨_,rfl⟩;have hgr1:w.grownBy W1 (some g):=by
     have hq:=jby w.drew g cur1.toArray;rw [hW1];exact ⟨hq.os,hq.tape,hq.output,hq.size,hq.block⟩
    rw [← hW1] at hcp1 hg1 hv1;have hcp2:∀ (W:World),(∀ k,W.heap[k]? = W1.heap[k]?)→∀ ty dc,(Builtin.copy_ #[35,35] ty #[.slice (some ⟨g,(i*3),none⟩) (n+1-i) dc,.slice (some ⟨vb,0,none⟩) 1 1]).run Tryz.prog W = .ok (goInt 1) (W.setRow g cur2.toArray):=fun W hW ty dc=>by
     have hm:Nat.min 1 (n+1-i)=1:=by simp only [Nat.min_def];split <;> omega
     have:=jcq (P:=Tryz.prog) W 35 35 ty 58 3 g (i*3) (n+1-i) dc ⟨vb,0,none⟩ 1 1 cur1.toArray 58 news ji7 hsz ((hW g).trans hg1) (by rw [hm,hnl])
      (fun j u hj=>by rw [Addr.add_lit,Nat.zero_add];exact jbk ((hW vb).trans hv1) (by simpa using hj)) (by rw [hnl];simp [hl1];omega) h1n
     rw [this,hm,hc2,hnl];rfl
    have hW2:∀ (W:World),(∀ k,W.heap[k]? = W1.heap[k]?)→W.os=W1.os→W.tape=W1.tape→W.output=W1.output→W.heap.size=W1.heap.size→(W.setRow g cur2.toArray).ownsRow base 58 3 (.slice (some ⟨g,0,none⟩) (n+1) cap) (n+1) (us.take (i*3) ++ news ++ us.drop (i*3))∧w.grownBy (W.setRow g cur2.toArray) (some g):=fun W hW e1 e2 e3 e4=>by
     refine ⟨jnr hb1 (setRow_heap W g cur1.toArray _ _ _ ((hW g).trans hg1)) hroom hcm (by show cur2.length=_;rw [hp2,hlc]) (by rw [show (n+1)*3=(n*3)+3 from by omega];exact hp1),?_⟩;have hgr2:=jby W g cur2.toArray;refine ⟨hgr2.os.trans (e1.trans hgr1.os),hgr2.tape.trans (e2.trans hgr1.tape),hgr2.output.trans (e3.trans hgr1.output),Nat.le_trans hgr1.size (Nat.le_trans (by omega) hgr2.size),fun k hk hr=>?_⟩;rw [hgr2.block k (by have:=hgr1.size;omega) hr,hW,hgr1.block k hk hr]
    have mixed:Tryz.prog.follows Departure.mixedOrders=true:=by kernel_rfl
    have HOV:=hid hov;have HW2:=hid hW2;have hw1:IntKind.i64.wrap ((i:Int)+1)=(i:Int)+1:=by rw [IntKind.wrap_i64];omega
    have hwn:IntKind.i64.wrap ((n:Int)+1)=(n:Int)+1:=by rw [IntKind.wrap_i64];omega
    have hb1':(0:Int)≤(i:Int)+1:=by omega
    have hin':¬ (i:Int)=(n:Int):=by omega
    have htn:((i:Int)+1).toNat=i+1:=by omega
    have htm:((n:Int)+1).toNat=n+1:=by omega
    have hb2:¬ (cap=i+1):=by omega
    have hb3:(i:Int)≤(n:Int)+1:=by omega
    have hb4:¬ (cap=i):=by omega
    have hb5:(n:Int)+1≤(cap:Int):=by omega
    have hb6:¬ ((cap:Int)<(n:Int)+1):=by omega
    clear hp1 hp2 hc2 hc1 hl1 hlc hg1 hv1 hx hcs hg hv husc hnew hdl hgr1 hW2 hov h hW1;go_enter Tryz.func103,Tryz.ntmps103
    go_wp2_with (simp only [HOV.out])
    go_region_law_o (refine step_copy_runI rfl _ _ 35 35 rfl _ _ (by simp [Act.eval,Act.put]) (by simp [Act.eval,Act.put]) (hcp1 _ _ _) ?_)
    go_wp2_with (at_builtin;refine wpList_copy_runI _ rfl _ _ 35 35 rfl _ _ rfl rfl (hcp2 _ (fun _=>rfl) _ _) ?_)
    go_ret;obtain ⟨r1,r2⟩:=HW2.out _ (fun _=>rfl) rfl rfl rfl rfl;exact ⟨_,rfl,r1,r2,fun k hk=>.inl hk⟩
   ·have hcn:cap=n:=by omega
    subst hcn;have hi0:(i*3)≤(cap*3):=by omega
    obtain ⟨i0,hinfo,hz0,hzs,hzb⟩:=info_parts js6;have hdl:(us.drop (i*3)).length=(cap-i)*3:=by rw [List.length_drop,hul];omega
    have hold:(Builtin.firstCells i0.size i (.slice (some ⟨g,0,none⟩) i cap)).run Tryz.prog w.drew = .ok (us.take (i*3)).toArray w.drew:=by
     rw [hzs];exact run_firstCells_some w.drew 3 i ⟨g,0,none⟩ i cap (us.take (i*3)) (by rw [List.length_take];omega) (fun j u hj=>by
      rw [Addr.add_lit,Nat.zero_add];rw [List.getElem?_take] at hj;split at hj
      ·exact husc j u hj
      ·cases hj)
    have hkk:(cap:Int)+1-(i:Int)=((cap+1-i:Nat):Int):=by omega
    have hik:i+(cap+1-i)=cap+1:=by omega
    obtain ⟨G,hG⟩:∃ G,G=grownCap w (cap+1) cap 58:=⟨_,rfl⟩;have hGn:cap+1≤G:=by rw [hG];exact grownCap_ge w _ _ _
    have hG63:G≤maxLen:=by rw [hG];exact grownCap_le_maxLen w (cap+1) cap 58 (by unfold maxLen;omega)
    obtain ⟨ROW,hROW⟩:∃ ROW:Array Value,ROW=(us.take (i*3)).toArray ++ Builtin.zeroCells (Value.cells (.agg #[.string ⟨#[]⟩,.int .i64 0,.int .i64 0])) (cap+1-i) ++ Builtin.zeroCells (Value.cells (.agg #[.string ⟨#[]⟩,.int .i64 0,.int .i64 0])) (G-(cap+1)):=⟨_,rfl⟩;have hrz:∀ ty,(Builtin.append_ #[35,3] ty #[.slice (some ⟨g,0,none⟩) i cap,.int .i64 ((cap:Int)+1-(i:Int))]).run Tryz.prog w = .ok (.slice (some ⟨w.heap.size,0,none⟩) (cap+1) G) (w.drew.alloc (.cells ROW 58)):=fun ty=>by
     have h:=Lib.run_append_grow_zeros (P:=Tryz.prog) w 35 3 ty 58 i0 _ .i64 .i64 ji7 (by kernel_rfl) hinfo hz0 (some ⟨g,0,none⟩) i cap (us.take (i*3)) hold (cap+1-i) (by omega) (by rw [hzs];decide) (by omega) (by omega) (by rw [hzb];omega) (by rw [hzb,hik];exact growslice_fits (by omega) hbig);rw [hik] at h;rw [hkk,hROW,hG];exact h
    have hRs:ROW.size=G*3:=by
     rw [hROW];simp [Builtin.zeroCells,Value.cells,hul];omega
    have hRl:ROW.toList.length=G*3:=by simpa using hRs
    have hRt:ROW.toList.take (i*3)=us.take (i*3):=by
     rw [hROW,Array.toList_append,Array.toList_append,List.append_assoc];rw [List.take_append_of_le_length (by simp [hul];omega),List.take_of_length_le (by simp;omega)]
    have hp1:=yee (news:=news) hul hRt hi0;have hp2:=jnu (R:=ROW.toList) (news:=news) hul hi0 (by rw [hRl,hnl];omega);rw [hnl] at hp1 hp2;obtain ⟨cur1,hc1⟩:∃ cur1:List Value,cur1=ROW.toList.take (i*3) ++ news ++ ROW.toList.drop ((i*3)+3):=⟨_,rfl⟩;rw [← hc1] at hp1 hp2;have hl1:cur1.length=G*3:=by rw [hc1];simp only [List.length_append,List.length_take,List.length_drop,hRl,hnl];omega
    obtain ⟨cur2,hc2⟩:∃ cur2:List Value,cur2=cur1.take ((i*3)+3) ++ us.drop (i*3) ++ cur1.drop ((i*3)+3+(us.drop (i*3)).length):=⟨_,rfl⟩;rw [← hc2] at hp1 hp2;obtain ⟨W1,hW1⟩:∃ W1,W1=w.drew.alloc (.cells ROW 58):=⟨_,rfl⟩;rw [← hW1] at hrz;have hsz1:W1.heap.size=w.heap.size+1:=by rw [hW1];show (w.heap.push _).size=_;simp
    have hg1:W1.heap[w.heap.size]? = some (.cells ROW 58 (0,0)):=by rw [hW1];show (w.heap.push _)[w.heap.size]? = _;simp
    have hO1:∀ k,k<w.heap.size→W1.heap[k]? = w.heap[k]?:=fun k hk=>by
     rw [hW1];show (w.heap.push _)[k]? = _;rw [Array.getElem?_push,if_neg (by omega)]
    have hcpA:∀ (W:World),(∀ k,W.heap[k]? = W1.heap[k]?)→∀ ty dc,(Builtin.copy_ #[35,35] ty #[.slice (some ⟨w.heap.size,(i*3),none⟩) (cap+1-i) dc,.slice (some ⟨vb,0,none⟩) 1 1]).run Tryz.prog W = .ok (goInt 1) (W.setRow w.heap.size cur1.toArray):=fun W hW ty dc=>by
     have hm:Nat.min 1 (cap+1-i)=1:=by simp only [Nat.min_def];split <;> omega
     have:=jcq (P:=Tryz.prog) W 35 35 ty 58 3 w.heap.size (i*3) (cap+1-i) dc ⟨vb,0,none⟩ 1 1 ROW 58 news ji7 hsz ((hW _).trans hg1) (by rw [hm,hnl])
      (fun j u hj=>by rw [Addr.add_lit,Nat.zero_add];exact jbk (((hW vb).trans (hO1 vb hvl)).trans hv) (by simpa using hj)) (by rw [hnl,hRs];omega) h1n
     rw [this,hm,hc1,hnl];rfl
    have hcpB:∀ (W:World),W.heap[w.heap.size]? = some (.cells cur1.toArray 58 (0,0))→(∀ k,k<w.heap.size→W.heap[k]? = w.heap[k]?)→∀ ty dc sc,(Builtin.copy_ #[35,35] ty #[.slice (some ⟨w.heap.size,((i+1)*3),none⟩) (cap-i) dc,.slice (some ⟨g,(i*3),none⟩) (cap-i) sc]).run Tryz.prog W = .ok (goInt (cap-i:Nat)) (W.setRow w.heap.size cur2.toArray):=fun W hWg hWk ty dc sc=>by
     have hm:Nat.min (cap-i) (cap-i)=cap-i:=Nat.min_self _;have:=jcq (P:=Tryz.prog) W 35 35 ty 58 3 w.heap.size ((i+1)*3) (cap-i) dc ⟨g,(i*3),none⟩ (cap-i) sc cur1.toArray 58 (us.drop (i*3)) ji7 hsz hWg (by rw [hdl,hm])
      (fun j u hj=>by
       rw [Addr.add_lit,World.cell?_of_block (w:=w) (hWk g hgl)];exact husc ((i*3)+j) u (by rwa [List.getElem?_drop] at hj)) (by rw [hdl];simp [hl1];omega) (fun u hu=>h1 u (List.mem_of_mem_drop hu))
     have e1:((i+1)*3)=(i*3)+3:=by omega
     rw [this,hm,hc2]
     try (first | rfl | rw [e1])
    have hEnd:∀ (W:World),(∀ k,k<w.heap.size→W.heap[k]? = w.heap[k]?)→W.heap[w.heap.size]? = some (.cells cur1.toArray 58 (0,0))→W.os=w.os→W.tape=w.tape→W.output=w.output→w.heap.size≤W.heap.size→(W.setRow w.heap.size cur2.toArray).ownsRow base 58 3 (.slice (some ⟨w.heap.size,0,none⟩) (cap+1) G) (cap+1) (us.take (i*3) ++ news ++ us.drop (i*3))∧w.grownBy (W.setRow w.heap.size cur2.toArray) (some g):=fun W hWk hWg e1 e2 e3 e4=>by
     refine ⟨jnr hbase (setRow_heap W w.heap.size cur1.toArray _ _ _ hWg) hGn hG63 (by show cur2.length=_;rw [hp2,hRl]) (by rw [show (cap+1)*3=(cap*3)+3 from by omega];exact hp1),?_⟩;have hgr2:=jby W w.heap.size cur2.toArray;refine ⟨hgr2.os.trans e1,hgr2.tape.trans e2,hgr2.output.trans e3,Nat.le_trans e4 hgr2.size,fun k hk hr=>?_⟩;rw [hgr2.block k (by omega) (by intro e;injection e with e;omega),hWk k hk]
    have hA2:(W1.setRow w.heap.size cur1.toArray).heap[w.heap.size]? = some (.cells cur1.toArray 58 (0,0)):=setRow_heap W1 _ ROW _ _ _ hg1;have hA3:∀ k,k<w.heap.size→(W1.setRow w.heap.size cur1.toArray).heap[k]? = w.heap[k]?:=fun k hk=>((jby W1 w.heap.size cur1.toArray).block k (by omega) (by intro e;injection e with e;omega)).trans (hO1 k hk);have hA4:w.heap.size≤(W1.setRow w.heap.size cur1.toArray).heap.size:=by rw [jpw];omega
    have hA5:(W1.setRow w.heap.size cur1.toArray).os=w.os∧(W1.setRow w.heap.size cur1.toArray).tape=w.tape∧(W1.setRow w.heap.size cur1.toArray).output=w.output:=by rw [hW1];exact ⟨rfl,rfl,rfl⟩
    have hcpC:∀ ty dc sc,(Builtin.copy_ #[35,35] ty #[.slice (some ⟨w.heap.size,((i+1)*3),none⟩) (cap-i) dc,.slice (some ⟨g,(i*3),none⟩) (cap-i) sc]).run Tryz.prog (W1.setRow w.heap.size cur1.toArray).drew = .ok (goInt (cap-i:Nat)) ((W1.setRow w.heap.size cur1.toArray).drew.setRow w.heap.size cur2.toArray):=fun ty dc sc=>hcpB (W1.setRow w.heap.size cur1.toArray).drew hA2 hA3 ty dc sc;clear hcpB;have HE:=hid hEnd;have HA:=hid (And.intro hA2 (And.intro hA3 (And.intro hA4 hA5)));have mixed:Tryz.prog.follows Departure.mixedOrders=true:=by kernel_rfl
    have hw1:IntKind.i64.wrap ((i:Int)+1)=(i:Int)+1:=by rw [IntKind.wrap_i64];omega
    have hwn:IntKind.i64.wrap ((cap:Int)+1)=(cap:Int)+1:=by rw [IntKind.wrap_i64];omega
    have hwm:IntKind.i64.wrap ((cap:Int)+1-(i:Int))=(cap:Int)+1-(i:Int):=by rw [IntKind.wrap_i64];omega
    have hb1':(0:Int)≤(i:Int)+1:=by omega
    have hin':¬ (i:Int)=(cap:Int):=by omega
    have htn:((i:Int)+1).toNat=i+1:=by omega
    have hb2:¬ (G=i+1):=by omega
    have hb3:(i:Int)≤(cap:Int)+1:=by omega
    have hb4:¬ (cap=i):=by omega
    have hb5:(i:Int)≤(cap:Int):=by omega
    have hb6:(cap:Int)<(cap:Int)+1:=by omega
    have hb7:¬ (G=i):=by omega
    have hG63':G≤9223372036854775807:=by unfold maxLen at hG63;omega
    clear hp1 hp2 hc2 hc1 hl1 hlc hx hcs hg hv husc hnew hdl h hROW hRs hRl hRt hold hkk hik hG hEnd hA2 hA3 hA4 hA5 hinfo hz0 hzs hzb hW1 hg1 hO1 hsz1;go_enter Tryz.func103,Tryz.ntmps103
    go_wp2_with (first
     | (at_builtin;refine Lib.wpList_append_run _ rfl _ _ _ _ rfl _ _ rfl rfl _ _ (hrz _) ?_)
     | (at_builtin;refine wpList_copy_runI _ rfl _ _ 35 35 rfl _ _ rfl rfl (hcpA _ (fun _=>rfl) _ _) ?_))
    go_region_law_o (refine step_copy_runI rfl _ _ 35 35 rfl (.slice (some ⟨w.heap.size,((i+1)*3),none⟩) (cap-i) (G-(i+1))) (.slice (some ⟨g,(i*3),none⟩) (cap-i) (cap-i)) (by simp [Act.eval,Act.put]) (by simp [Act.eval,Act.put]) (hcpC 3 (G-(i+1)) (cap-i)) ?_)
    go_wp2;go_ret;obtain ⟨r1,r2⟩:=HE.out (W1.setRow w.heap.size cur1.toArray).drew HA.out.2.1 HA.out.1 HA.out.2.2.2.1 HA.out.2.2.2.2.1 HA.out.2.2.2.2.2 HA.out.2.2.1;exact ⟨_,rfl,r1,r2,fun k hk=>.inr (by injection hk with hk;subst hk;exact Nat.le_refl _)⟩
theorem jje:Tryz.prog.underlying 36=some (.slice 56):=by kernel_rfl
theorem jto:(Tryz.prog.info? 56).map (fun i=>(i.zero,i.size,i.bytes))=some (some (.agg #[.string ⟨#[]⟩,.int .i64 0,.bool false,.slice none 0 0,.slice none 0 0]),5,80):=by kernel_rfl
theorem yp1:∀ w,(Go.sizeOf 56).run Tryz.prog w = .ok 5 w:=fun _=>by kernel_rfl
theorem yri (base:Nat) (v:Value) (n i:Nat) (us news:List Value) (vb:Nat) (w:World) (h:w.ownsRow base 56 5 v n us) (h1:∀ u∈us,u.oneCell'=true) (hi:i≤n) (hnl:news.length=5) (h1n:∀ u∈news,u.oneCell'=true)
  (hv:w.heap[vb]? = some (.cells news.toArray 56 (0,0))) (hvb:v.ownBlock≠some vb) (hbig:(n+1)*80≤140737488355328) (hbase:base≤w.heap.size) :
  Calls Tryz.prog 100 #[v,.int .i64 i,.slice (some ⟨vb,0,none⟩) 1 1] w fun e w'=>∃ v',e = .returned v'∧w'.ownsRow base 56 5 v' (n+1) (us.take (i*5) ++ news ++ us.drop (i*5))∧w.grownBy w' v.ownBlock∧jed w v v':=by
 have hnew:∀ j u,news[j]? = some u→w.cell? ((⟨vb,0,none⟩:Addr).add j)=some u:=fun j u hj=>by
  rw [Addr.add_lit,Nat.zero_add];exact jbk hv (by simpa using hj)
 have hul:=h.1;have hsz:(Tryz.prog.info? 56).map (·.size)=some 5:=by
  obtain ⟨i0,hi0,_,h1,_⟩:=info_parts jto;rw [hi0];simp [h1]
 by_cases hin:i=n
 ·subst hin;have et:us.take (i*5)=us:=List.take_of_length_le (by omega);have ed:us.drop (i*5) = []:=List.drop_of_length_le (by omega);rw [et,ed,List.append_nil];have HP:=hid hnew;have HO:=hid h;have hform:∃ A c,v = .slice A i c∧i≤c∧c≤maxLen:=by
   rcases h.2 with ⟨rfl,rfl⟩ | ⟨g,cap,cur,rfl,_,_,h4,h5,_⟩
   ·exact ⟨none,0,rfl,Nat.le_refl _,by unfold maxLen;omega⟩
   ·exact ⟨_,cap,rfl,h4,h5⟩
  obtain ⟨A,c,rfl,hc1,hc2⟩:=hform;unfold maxLen at hc2;clear h hnew et ed hv;by_cases hci:c=i
  ·subst hci;go_enter Tryz.func100,Tryz.ntmps100
   go_wp2_with (at_builtin;refine jav _ rfl _ _ 36 rfl base 56 5 80 (.agg #[.string ⟨#[]⟩,.int .i64 0,.bool false,.slice none 0 0,.slice none 0 0]) jje jto rfl (by decide) _ _ _ rfl HO.out ⟨vb,0,none⟩ 1 1 news rfl (by rw [hnl]) HP.out h1n (by unfold maxLen;omega) hbig hbase ?_;intro v' w' ho hg hm)
   go_ret;exact ⟨v',rfl,ho,hg,hm⟩
  ·go_enter Tryz.func100,Tryz.ntmps100
   go_wp2_with (at_builtin;refine jav _ rfl _ _ 36 rfl base 56 5 80 (.agg #[.string ⟨#[]⟩,.int .i64 0,.bool false,.slice none 0 0,.slice none 0 0]) jje jto rfl (by decide) _ _ _ rfl HO.out ⟨vb,0,none⟩ 1 1 news rfl (by rw [hnl]) HP.out h1n (by unfold maxLen;omega) hbig hbase ?_;intro v' w' ho hg hm)
   go_ret;exact ⟨v',rfl,ho,hg,hm⟩
 ·rcases h.2 with ⟨rfl,rfl⟩ | ⟨g,cap,cur,rfl,hb1,hg,hnc,hcm,hcs,hx⟩
  ·omega
  ·have hgv:g≠vb:=fun e=>hvb (by rw [← e];rfl);have hcm':=hcm;unfold maxLen at hcm';have hgl:=(Array.getElem?_eq_some_iff.1 hg).1;have hvl:=(Array.getElem?_eq_some_iff.1 hv).1;have hi2:i<n:=by omega
   have hlc:cur.toList.length=cap*5:=by simpa using hcs
   have husc:∀ j u,us[j]? = some u→w.cell? ⟨g,j,none⟩=some u:=fun j u hj=>by
    refine jbk hg ?_;rw [← hx] at hj;rw [List.getElem?_take] at hj;split at hj
    ·exact hj
    ·cases hj
   by_cases hroom:n+1≤cap
   ·have hi0:(i*5)≤(n*5):=by omega
    have hp1:=yma (news:=news) hx hi0 (by rw [hlc,hnl];omega);have hp2:=jps (news:=news) hx hi0 (by rw [hlc,hnl];omega);rw [hnl] at hp1 hp2;have hdl:(us.drop (i*5)).length=(n-i)*5:=by rw [List.length_drop,hul];omega
    obtain ⟨cur1,hc1⟩:∃ cur1:List Value,cur1=cur.toList.take ((i*5)+5) ++ us.drop (i*5) ++ cur.toList.drop ((i*5)+5+(us.drop (i*5)).length):=⟨_,rfl⟩;rw [← hc1] at hp1 hp2;have hl1:cur1.length=cap*5:=by rw [hc1];simp only [List.length_append,List.length_take,List.length_drop,hlc,hul];omega
    obtain ⟨cur2,hc2⟩:∃ cur2:List Value,cur2=cur1.take (i*5) ++ news ++ cur1.drop ((i*5)+5):=⟨_,rfl⟩;rw [← hc2] at hp1 hp2;have hov:∀ lb cb,(callFunc 147 #[.slice (some ⟨vb,0,none⟩) 1 1,.slice (some ⟨g,((i+1)*5),none⟩) lb cb]).run Tryz.prog w = .ok (.value (.bool false)) w:=fun lb cb=>by
     rw [run_callFunc_extern Tryz.func147 (by kernel_rfl) (by kernel_rfl) (by kernel_rfl) (e:=Extern.SlicesOverlaps.overlaps #[36,36] #[4]) (by kernel_rfl),
      Lib.run_overlaps_apart w 36 4 56 jje 5 yp1 ⟨vb,0,none⟩ ⟨g,((i+1)*5),none⟩ 1 1 lb cb (Ne.symm hgv) 56 56 5 cur.size (by simp [World.shape?,hv,hnl]) (by simp [World.shape?,hg]) (by rw [hcs];omega) (by simp [World.frozen?,hv]) (by simp [World.frozen?,hv])]
     rfl
    have hcp1:∀ ty dc sc,(Builtin.copy_ #[36,36] ty #[.slice (some ⟨g,((i+1)*5),none⟩) (n-i) dc,.slice (some ⟨g,(i*5),none⟩) (n+1-i) sc]).run Tryz.prog w.drew = .ok (goInt (Nat.min (n+1-i) (n-i))) (w.drew.setRow g cur1.toArray):=fun ty dc sc=>by
     have:=jcq (P:=Tryz.prog) w.drew 36 36 ty 56 5 g ((i+1)*5) (n-i) dc ⟨g,(i*5),none⟩ (n+1-i) sc cur 56 (us.drop (i*5)) jje hsz hg (by rw [hdl];congr 1;simp only [Nat.min_def];split <;> omega)
      (fun j u hj=>by rw [Addr.add_lit];exact husc ((i*5)+j) u (by rwa [List.getElem?_drop] at hj)) (by rw [hdl,hcs];omega) (fun u hu=>h1 u (List.mem_of_mem_drop hu))
     have e1:((i+1)*5)=(i*5)+5:=by omega
     rw [this,hc1]
     try (first | rfl | rw [e1])
    have hg1:(w.drew.setRow g cur1.toArray).heap[g]? = some (.cells cur1.toArray 56 (0,0)):=setRow_heap w.drew g cur _ _ _ hg;have hv1:(w.drew.setRow g cur1.toArray).heap[vb]? = some (.cells news.toArray 56 (0,0)):=((jby w.drew g cur1.toArray).block vb hvl (by intro e;injection e with e;exact hgv e.symm)).trans hv;obtain ⟨W1,hW1⟩:∃ W1,W1=w.drew.setRow g cur1.toArray:=⟨_,rfl⟩;have hgr1:w.grownBy W1 (some g):=by
     have hq:=jby w.drew g cur1.toArray;rw [hW1];exact ⟨hq.os,hq.tape,hq.output,hq.size,hq.block⟩
    rw [← hW1] at hcp1 hg1 hv1;have hcp2:∀ (W:World),(∀ k,W.heap[k]? = W1.heap[k]?)→∀ ty dc,(Builtin.copy_ #[36,36] ty #[.slice (some ⟨g,(i*5),none⟩) (n+1-i) dc,.slice (some ⟨vb,0,none⟩) 1 1]).run Tryz.prog W = .ok (goInt 1) (W.setRow g cur2.toArray):=fun W hW ty dc=>by
     have hm:Nat.min 1 (n+1-i)=1:=by simp only [Nat.min_def];split <;> omega
     have:=jcq (P:=Tryz.prog) W 36 36 ty 56 5 g (i*5) (n+1-i) dc ⟨vb,0,none⟩ 1 1 cur1.toArray 56 news jje hsz ((hW g).trans hg1) (by rw [hm,hnl])
      (fun j u hj=>by rw [Addr.add_lit,Nat.zero_add];exact jbk ((hW vb).trans hv1) (by simpa using hj)) (by rw [hnl];simp [hl1];omega) h1n
     rw [this,hm,hc2,hnl];rfl
    have hW2:∀ (W:World),(∀ k,W.heap[k]? = W1.heap[k]?)→W.os=W1.os→W.tape=W1.tape→W.output=W1.output→W.heap.size=W1.heap.size→(W.setRow g cur2.toArray).ownsRow base 56 5 (.slice (some ⟨g,0,none⟩) (n+1) cap) (n+1) (us.take (i*5) ++ news ++ us.drop (i*5))∧w.grownBy (W.setRow g cur2.toArray) (some g):=fun W hW e1 e2 e3 e4=>by
     refine ⟨jnr hb1 (setRow_heap W g cur1.toArray _ _ _ ((hW g).trans hg1)) hroom hcm (by show cur2.length=_;rw [hp2,hlc]) (by rw [show (n+1)*5=(n*5)+5 from by omega];exact hp1),?_⟩;have hgr2:=jby W g cur2.toArray;refine ⟨hgr2.os.trans (e1.trans hgr1.os),hgr2.tape.trans (e2.trans hgr1.tape),hgr2.output.trans (e3.trans hgr1.output),Nat.le_trans hgr1.size (Nat.le_trans (by omega) hgr2.size),fun k hk hr=>?_⟩;rw [hgr2.block k (by have:=hgr1.size;omega) hr,hW,hgr1.block k hk hr]
    have mixed:Tryz.prog.follows Departure.mixedOrders=true:=by kernel_rfl
    have HOV:=hid hov;have HW2:=hid hW2;have hw1:IntKind.i64.wrap ((i:Int)+1)=(i:Int)+1:=by rw [IntKind.wrap_i64];omega
    have hwn:IntKind.i64.wrap ((n:Int)+1)=(n:Int)+1:=by rw [IntKind.wrap_i64];omega
    have hb1':(0:Int)≤(i:Int)+1:=by omega
    have hin':¬ (i:Int)=(n:Int):=by omega
    have htn:((i:Int)+1).toNat=i+1:=by omega
    have htm:((n:Int)+1).toNat=n+1:=by omega
    have hb2:¬ (cap=i+1):=by omega
    have hb3:(i:Int)≤(n:Int)+1:=by omega
    have hb4:¬ (cap=i):=by omega
    have hb5:(n:Int)+1≤(cap:Int):=by omega
    have hb6:¬ ((cap:Int)<(n:Int)+1):=by omega
    clear hp1 hp2 hc2 hc1 hl1 hlc hg1 hv1 hx hcs hg hv husc hnew hdl hgr1 hW2 hov h hW1;go_enter Tryz.func100,Tryz.ntmps100
    go_wp2_with (simp only [HOV.out])
    go_region_law_o (refine step_copy_runI rfl _ _ 36 36 rfl _ _ (by simp [Act.eval,Act.put]) (by simp [Act.eval,Act.put]) (hcp1 _ _ _) ?_)
    go_wp2_with (at_builtin;refine wpList_copy_runI _ rfl _ _ 36 36 rfl _ _ rfl rfl (hcp2 _ (fun _=>rfl) _ _) ?_)
    go_ret;obtain ⟨r1,r2⟩:=HW2.out _ (fun _=>rfl) rfl rfl rfl rfl;exact ⟨_,rfl,r1,r2,fun k hk=>.inl hk⟩
   ·have hcn:cap=n:=by omega
    subst hcn;have hi0:(i*5)≤(cap*5):=by omega
    obtain ⟨i0,hinfo,hz0,hzs,hzb⟩:=info_parts jto;have hdl:(us.drop (i*5)).length=(cap-i)*5:=by rw [List.length_drop,hul];omega
    have hold:(Builtin.firstCells i0.size i (.slice (some ⟨g,0,none⟩) i cap)).run Tryz.prog w.drew = .ok (us.take (i*5)).toArray w.drew:=by
     rw [hzs];exact run_firstCells_some w.drew 5 i ⟨g,0,none⟩ i cap (us.take (i*5)) (by rw [List.length_take];omega) (fun j u hj=>by
      rw [Addr.add_lit,Nat.zero_add];rw [List.getElem?_take] at hj;split at hj
      ·exact husc j u hj
      ·cases hj)
    have hkk:(cap:Int)+1-(i:Int)=((cap+1-i:Nat):Int):=by omega
    have hik:i+(cap+1-i)=cap+1:=by omega
    obtain ⟨G,hG⟩:∃ G,G=grownCap w (cap+1) cap 56:=⟨_,rfl⟩;have hGn:cap+1≤G:=by rw [hG];exact grownCap_ge w _ _ _
    have hG63:G≤maxLen:=by rw [hG];exact grownCap_le_maxLen w (cap+1) cap 56 (by unfold maxLen;omega)
    obtain ⟨ROW,hROW⟩:∃ ROW:Array Value,ROW=(us.take (i*5)).toArray ++ Builtin.zeroCells (Value.cells (.agg #[.string ⟨#[]⟩,.int .i64 0,.bool false,.slice none 0 0,.slice none 0 0])) (cap+1-i) ++ Builtin.zeroCells (Value.cells (.agg #[.string ⟨#[]⟩,.int .i64 0,.bool false,.slice none 0 0,.slice none 0 0])) (G-(cap+1)):=⟨_,rfl⟩;have hrz:∀ ty,(Builtin.append_ #[36,3] ty #[.slice (some ⟨g,0,none⟩) i cap,.int .i64 ((cap:Int)+1-(i:Int))]).run Tryz.prog w = .ok (.slice (some ⟨w.heap.size,0,none⟩) (cap+1) G) (w.drew.alloc (.cells ROW 56)):=fun ty=>by
     have h:=Lib.run_append_grow_zeros (P:=Tryz.prog) w 36 3 ty 56 i0 _ .i64 .i64 jje (by kernel_rfl) hinfo hz0 (some ⟨g,0,none⟩) i cap (us.take (i*5)) hold (cap+1-i) (by omega) (by rw [hzs];decide) (by omega) (by omega) (by rw [hzb];omega) (by rw [hzb,hik];exact growslice_fits (by omega) hbig);rw [hik] at h;rw [hkk,hROW,hG];exact h
    have hRs:ROW.size=G*5:=by
     rw [hROW];simp [Builtin.zeroCells,Value.cells,hul];omega
    have hRl:ROW.toList.length=G*5:=by simpa using hRs
    have hRt:ROW.toList.take (i*5)=us.take (i*5):=by
     rw [hROW,Array.toList_append,Array.toList_append,List.append_assoc];rw [List.take_append_of_le_length (by simp [hul];omega),List.take_of_length_le (by simp;omega)]
    have hp1:=yee (news:=news) hul hRt hi0;have hp2:=jnu (R:=ROW.toList) (news:=news) hul hi0 (by rw [hRl,hnl];omega);rw [hnl] at hp1 hp2;obtain ⟨cur1,hc1⟩:∃ cur1:List Value,cur1=ROW.toList.take (i*5) ++ news ++ ROW.toList.drop ((i*5)+5):=⟨_,rfl⟩;rw [← hc1] at hp1 hp2;have hl1:cur1.length=G*5:=by rw [hc1];simp only [List.length_append,List.length_take,List.length_drop,hRl,hnl];omega
    obtain ⟨cur2,hc2⟩:∃ cur2:List Value,cur2=cur1.take ((i*5)+5) ++ us.drop (i*5) ++ cur1.drop ((i*5)+5+(us.drop (i*5)).length):=⟨_,rfl⟩;rw [← hc2] at hp1 hp2;obtain ⟨W1,hW1⟩:∃ W1,W1=w.drew.alloc (.cells ROW 56):=⟨_,rfl⟩;rw [← hW1] at hrz;have hsz1:W1.heap.size=w.heap.size+1:=by rw [hW1];show (w.heap.push _).size=_;simp
    have hg1:W1.heap[w.heap.size]? = some (.cells ROW 56 (0,0)):=by rw [hW1];show (w.heap.push _)[w.heap.size]? = _;simp
    have hO1:∀ k,k<w.heap.size→W1.heap[k]? = w.heap[k]?:=fun k hk=>by
     rw [hW1];show (w.heap.push _)[k]? = _;rw [Array.getElem?_push,if_neg (by omega)]
    have hcpA:∀ (W:World),(∀ k,W.heap[k]? = W1.heap[k]?)→∀ ty dc,(Builtin.copy_ #[36,36] ty #[.slice (some ⟨w.heap.size,(i*5),none⟩) (cap+1-i) dc,.slice (some ⟨vb,0,none⟩) 1 1]).run Tryz.prog W = .ok (goInt 1) (W.setRow w.heap.size cur1.toArray):=fun W hW ty dc=>by
     have hm:Nat.min 1 (cap+1-i)=1:=by simp only [Nat.min_def];split <;> omega
     have:=jcq (P:=Tryz.prog) W 36 36 ty 56 5 w.heap.size (i*5) (cap+1-i) dc ⟨vb,0,none⟩ 1 1 ROW 56 news jje hsz ((hW _).trans hg1) (by rw [hm,hnl])
      (fun j u hj=>by rw [Addr.add_lit,Nat.zero_add];exact jbk (((hW vb).trans (hO1 vb hvl)).trans hv) (by simpa using hj)) (by rw [hnl,hRs];omega) h1n
     rw [this,hm,hc1,hnl];rfl
    have hcpB:∀ (W:World),W.heap[w.heap.size]? = some (.cells cur1.toArray 56 (0,0))→(∀ k,k<w.heap.size→W.heap[k]? = w.heap[k]?)→∀ ty dc sc,(Builtin.copy_ #[36,36] ty #[.slice (some ⟨w.heap.size,((i+1)*5),none⟩) (cap-i) dc,.slice (some ⟨g,(i*5),none⟩) (cap-i) sc]).run Tryz.prog W = .ok (goInt (cap-i:Nat)) (W.setRow w.heap.size cur2.toArray):=fun W hWg hWk ty dc sc=>by
     have hm:Nat.min (cap-i) (cap-i)=cap-i:=Nat.min_self _;have:=jcq (P:=Tryz.prog) W 36 36 ty 56 5 w.heap.size ((i+1)*5) (cap-i) dc ⟨g,(i*5),none⟩ (cap-i) sc cur1.toArray 56 (us.drop (i*5)) jje hsz hWg (by rw [hdl,hm])
      (fun j u hj=>by
       rw [Addr.add_lit,World.cell?_of_block (w:=w) (hWk g hgl)];exact husc ((i*5)+j) u (by rwa [List.getElem?_drop] at hj)) (by rw [hdl];simp [hl1];omega) (fun u hu=>h1 u (List.mem_of_mem_drop hu))
     have e1:((i+1)*5)=(i*5)+5:=by omega
     rw [this,hm,hc2]
     try (first | rfl | rw [e1])
    have hEnd:∀ (W:World),(∀ k,k<w.heap.size→W.heap[k]? = w.heap[k]?)→W.heap[w.heap.size]? = some (.cells cur1.toArray 56 (0,0))→W.os=w.os→W.tape=w.tape→W.output=w.output→w.heap.size≤W.heap.size→(W.setRow w.heap.size cur2.toArray).ownsRow base 56 5 (.slice (some ⟨w.heap.size,0,none⟩) (cap+1) G) (cap+1) (us.take (i*5) ++ news ++ us.drop (i*5))∧w.grownBy (W.setRow w.heap.size cur2.toArray) (some g):=fun W hWk hWg e1 e2 e3 e4=>by
     refine ⟨jnr hbase (setRow_heap W w.heap.size cur1.toArray _ _ _ hWg) hGn hG63 (by show cur2.length=_;rw [hp2,hRl]) (by rw [show (cap+1)*5=(cap*5)+5 from by omega];exact hp1),?_⟩;have hgr2:=jby W w.heap.size cur2.toArray;refine ⟨hgr2.os.trans e1,hgr2.tape.trans e2,hgr2.output.trans e3,Nat.le_trans e4 hgr2.size,fun k hk hr=>?_⟩;rw [hgr2.block k (by omega) (by intro e;injection e with e;omega),hWk k hk]
    have hA2:(W1.setRow w.heap.size cur1.toArray).heap[w.heap.size]? = some (.cells cur1.toArray 56 (0,0)):=setRow_heap W1 _ ROW _ _ _ hg1;have hA3:∀ k,k<w.heap.size→(W1.setRow w.heap.size cur1.toArray).heap[k]? = w.heap[k]?:=fun k hk=>((jby W1 w.heap.size cur1.toArray).block k (by omega) (by intro e;injection e with e;omega)).trans (hO1 k hk);have hA4:w.heap.size≤(W1.setRow w.heap.size cur1.toArray).heap.size:=by rw [jpw];omega
    have hA5:(W1.setRow w.heap.size cur1.toArray).os=w.os∧(W1.setRow w.heap.size cur1.toArray).tape=w.tape∧(W1.setRow w.heap.size cur1.toArray).output=w.output:=by rw [hW1];exact ⟨rfl,rfl,rfl⟩
    have hcpC:∀ ty dc sc,(Builtin.copy_ #[36,36] ty #[.slice (some ⟨w.heap.size,((i+1)*5),none⟩) (cap-i) dc,.slice (some ⟨g,(i*5),none⟩) (cap-i) sc]).run Tryz.prog (W1.setRow w.heap.size cur1.toArray).drew = .ok (goInt (cap-i:Nat)) ((W1.setRow w.heap.size cur1.toArray).drew.setRow w.heap.size cur2.toArray):=fun ty dc sc=>hcpB (W1.setRow w.heap.size cur1.toArray).drew hA2 hA3 ty dc sc;clear hcpB;have HE:=hid hEnd;have HA:=hid (And.intro hA2 (And.intro hA3 (And.intro hA4 hA5)));have mixed:Tryz.prog.follows Departure.mixedOrders=true:=by kernel_rfl
    have hw1:IntKind.i64.wrap ((i:Int)+1)=(i:Int)+1:=by rw [IntKind.wrap_i64];omega
    have hwn:IntKind.i64.wrap ((cap:Int)+1)=(cap:Int)+1:=by rw [IntKind.wrap_i64];omega
    have hwm:IntKind.i64.wrap ((cap:Int)+1-(i:Int))=(cap:Int)+1-(i:Int):=by rw [IntKind.wrap_i64];omega
    have hb1':(0:Int)≤(i:Int)+1:=by omega
    have hin':¬ (i:Int)=(cap:Int):=by omega
    have htn:((i:Int)+1).toNat=i+1:=by omega
    have hb2:¬ (G=i+1):=by omega
    have hb3:(i:Int)≤(cap:Int)+1:=by omega
    have hb4:¬ (cap=i):=by omega
    have hb5:(i:Int)≤(cap:Int):=by omega
    have hb6:(cap:Int)<(cap:Int)+1:=by omega
    have hb7:¬ (G=i):=by omega
    have hG63':G≤9223372036854775807:=by unfold maxLen at hG63;omega
    clear hp1 hp2 hc2 hc1 hl1 hlc hx hcs hg hv husc hnew hdl h hROW hRs hRl hRt hold hkk hik hG hEnd hA2 hA3 hA4 hA5 hinfo hz0 hzs hzb hW1 hg1 hO1 hsz1;go_enter Tryz.func100,Tryz.ntmps100
    go_wp2_with (first
     | (at_builtin;refine Lib.wpList_append_run _ rfl _ _ _ _ rfl _ _ rfl rfl _ _ (hrz _) ?_)
     | (at_builtin;refine wpList_copy_runI _ rfl _ _ 36 36 rfl _ _ rfl rfl (hcpA _ (fun _=>rfl) _ _) ?_))
    go_region_law_o (refine step_copy_runI rfl _ _ 36 36 rfl (.slice (some ⟨w.heap.size,((i+1)*5),none⟩) (cap-i) (G-(i+1))) (.slice (some ⟨g,(i*5),none⟩) (cap-i) (cap-i)) (by simp [Act.eval,Act.put]) (by simp [Act.eval,Act.put]) (hcpC 3 (G-(i+1)) (cap-i)) ?_)
    go_wp2;go_ret;obtain ⟨r1,r2⟩:=HE.out (W1.setRow w.heap.size cur1.toArray).drew HA.out.2.1 HA.out.1 HA.out.2.2.2.1 HA.out.2.2.2.2.1 HA.out.2.2.2.2.2 HA.out.2.2.1;exact ⟨_,rfl,r1,r2,fun k hk=>.inr (by injection hk with hk;subst hk;exact Nat.le_refl _)⟩
theorem jjf:Tryz.prog.underlying 39=some (.slice 9):=by kernel_rfl
theorem jtp:(Tryz.prog.info? 9).map (fun i=>(i.zero,i.size,i.bytes))=some (some (.string ⟨#[]⟩),1,16):=by kernel_rfl
theorem yp6:∀ w,(Go.sizeOf 9).run Tryz.prog w = .ok 1 w:=fun _=>by kernel_rfl
theorem yrj (base:Nat) (v:Value) (n i:Nat) (us news:List Value) (vb:Nat) (w:World) (h:w.ownsRow base 9 1 v n us) (h1:∀ u∈us,u.oneCell'=true) (hi:i≤n) (hnl:news.length=1) (h1n:∀ u∈news,u.oneCell'=true)
  (hv:w.heap[vb]? = some (.cells news.toArray 9 (0,0))) (hvb:v.ownBlock≠some vb) (hbig:(n+1)*16≤140737488355328) (hbase:base≤w.heap.size) :
  Calls Tryz.prog 155 #[v,.int .i64 i,.slice (some ⟨vb,0,none⟩) 1 1] w fun e w'=>∃ v',e = .returned v'∧w'.ownsRow base 9 1 v' (n+1) (us.take i ++ news ++ us.drop i)∧w.grownBy w' v.ownBlock∧jed w v v':=by
 have hnew:∀ j u,news[j]? = some u→w.cell? ((⟨vb,0,none⟩:Addr).add j)=some u:=fun j u hj=>by
  rw [Addr.add_lit,Nat.zero_add];exact jbk hv (by simpa using hj)
 have hul:=h.1;have hsz:(Tryz.prog.info? 9).map (·.size)=some 1:=by
  obtain ⟨i0,hi0,_,h1,_⟩:=info_parts jtp;rw [hi0];simp [h1]
 by_cases hin:i=n
 ·subst hin;have et:us.take i=us:=List.take_of_length_le (by omega);have ed:us.drop i = []:=List.drop_of_length_le (by omega);rw [et,ed,List.append_nil];have HP:=hid hnew;have HO:=hid h;have hform:∃ A c,v = .slice A i c∧i≤c∧c≤maxLen:=by
   rcases h.2 with ⟨rfl,rfl⟩ | ⟨g,cap,cur,rfl,_,_,h4,h5,_⟩
   ·exact ⟨none,0,rfl,Nat.le_refl _,by unfold maxLen;omega⟩
   ·exact ⟨_,cap,rfl,h4,h5⟩
  obtain ⟨A,c,rfl,hc1,hc2⟩:=hform;unfold maxLen at hc2;clear h hnew et ed hv;by_cases hci:c=i
  ·subst hci;go_enter Tryz.func155,Tryz.ntmps155
   go_wp2_with (at_builtin;refine jav _ rfl _ _ 39 rfl base 9 1 16 (.string ⟨#[]⟩) jjf jtp rfl (by decide) _ _ _ rfl HO.out ⟨vb,0,none⟩ 1 1 news rfl (by rw [hnl]) HP.out h1n (by unfold maxLen;omega) hbig hbase ?_;intro v' w' ho hg hm)
   go_ret;exact ⟨v',rfl,ho,hg,hm⟩
  ·go_enter Tryz.func155,Tryz.ntmps155
   go_wp2_with (at_builtin;refine jav _ rfl _ _ 39 rfl base 9 1 16 (.string ⟨#[]⟩) jjf jtp rfl (by decide) _ _ _ rfl HO.out ⟨vb,0,none⟩ 1 1 news rfl (by rw [hnl]) HP.out h1n (by unfold maxLen;omega) hbig hbase ?_;intro v' w' ho hg hm)
   go_ret;exact ⟨v',rfl,ho,hg,hm⟩
 ·rcases h.2 with ⟨rfl,rfl⟩ | ⟨g,cap,cur,rfl,hb1,hg,hnc,hcm,hcs,hx⟩
  ·omega
  ·have hgv:g≠vb:=fun e=>hvb (by rw [← e];rfl);have hcm':=hcm;unfold maxLen at hcm';have hgl:=(Array.getElem?_eq_some_iff.1 hg).1;have hvl:=(Array.getElem?_eq_some_iff.1 hv).1;have hi2:i<n:=by omega
   have hlc:cur.toList.length=cap*1:=by simpa using hcs
   have husc:∀ j u,us[j]? = some u→w.cell? ⟨g,j,none⟩=some u:=fun j u hj=>by
    refine jbk hg ?_;rw [← hx] at hj;rw [List.getElem?_take] at hj;split at hj
    ·exact hj
    ·cases hj
   by_cases hroom:n+1≤cap
   ·have hi0:i≤(n*1):=by omega
    have hp1:=yma (news:=news) hx hi0 (by rw [hlc,hnl];omega);have hp2:=jps (news:=news) hx hi0 (by rw [hlc,hnl];omega);rw [hnl] at hp1 hp2;have hdl:(us.drop i).length=(n-i)*1:=by rw [List.length_drop,hul];omega
    obtain ⟨cur1,hc1⟩:∃ cur1:List Value,cur1=cur.toList.take (i+1) ++ us.drop i ++ cur.toList.drop (i+1+(us.drop i).length):=⟨_,rfl⟩;rw [← hc1] at hp1 hp2;have hl1:cur1.length=cap*1:=by rw [hc1];simp only [List.length_append,List.length_take,List.length_drop,hlc,hul];omega
    obtain ⟨cur2,hc2⟩:∃ cur2:List Value,cur2=cur1.take i ++ news ++ cur1.drop (i+1):=⟨_,rfl⟩;rw [← hc2] at hp1 hp2;have hov:∀ lb cb,(callFunc 187 #[.slice (some ⟨vb,0,none⟩) 1 1,.slice (some ⟨g,(i+1),none⟩) lb cb]).run Tryz.prog w = .ok (.value (.bool false)) w:=fun lb cb=>by
     rw [run_callFunc_extern Tryz.func187 (by kernel_rfl) (by kernel_rfl) (by kernel_rfl) (e:=Extern.SlicesOverlaps.overlaps #[39,39] #[4]) (by kernel_rfl),
      Lib.run_overlaps_apart w 39 4 9 jjf 1 yp6 ⟨vb,0,none⟩ ⟨g,(i+1),none⟩ 1 1 lb cb (Ne.symm hgv) 9 9 1 cur.size (by simp [World.shape?,hv,hnl]) (by simp [World.shape?,hg]) (by rw [hcs];omega) (by simp [World.frozen?,hv]) (by simp [World.frozen?,hv])]
     rfl
    have hcp1:∀ ty dc sc,(Builtin.copy_ #[39,39] ty #[.slice (some ⟨g,(i+1),none⟩) (n-i) dc,.slice (some ⟨g,i,none⟩) (n+1-i) sc]).run Tryz.prog w.drew = .ok (goInt (Nat.min (n+1-i) (n-i))) (w.drew.setRow g cur1.toArray):=fun ty dc sc=>by
     have:=jcq (P:=Tryz.prog) w.drew 39 39 ty 9 1 g (i+1) (n-i) dc ⟨g,i,none⟩ (n+1-i) sc cur 9 (us.drop i) jjf hsz hg (by rw [hdl];congr 1;simp only [Nat.min_def];split <;> omega)
      (fun j u hj=>by rw [Addr.add_lit];exact husc (i+j) u (by rwa [List.getElem?_drop] at hj)) (by rw [hdl,hcs];omega) (fun u hu=>h1 u (List.mem_of_mem_drop hu))
     have e1:(i+1)=i+1:=by omega
     rw [this,hc1]
     try (first | rfl | rw [e1])
    have hg1:(w.drew.setRow g cur1.toArray).heap[g]? = some (.cells cur1.toArray 9 (0,0)):=setRow_heap w.drew g cur _ _ _ hg;have hv1:(w.drew.setRow g cur1.toArray).heap[vb]? = some (.cells news.toArray 9 (0,0)):=((jby w.drew g cur1.toArray).block vb hvl (by intro e;injection e with e;exact hgv e.symm)).trans hv;obtain ⟨W1,hW1⟩:∃ W1,W1=w.drew.setRow g cur1.toArray:=⟨_,rfl⟩;have hgr1:w.grownBy W1 (some g):=by
     have hq:=jby w.drew g cur1.toArray;rw [hW1];exact ⟨hq.os,hq.tape,hq.output,hq.size,hq.block⟩
    rw [← hW1] at hcp1 hg1 hv1;have hcp2:∀ (W:World),(∀ k,W.heap[k]? = W1.heap[k]?)→∀ ty dc,(Builtin.copy_ #[39,39] ty #[.slice (some ⟨g,i,none⟩) (n+1-i) dc,.slice (some ⟨vb,0,none⟩) 1 1]).run Tryz.prog W = .ok (goInt 1) (W.setRow g cur2.toArray):=fun W hW ty dc=>by
     have hm:Nat.min 1 (n+1-i)=1:=by simp only [Nat.min_def];split <;> omega
     have:=jcq (P:=Tryz.prog) W 39 39 ty 9 1 g i (n+1-i) dc ⟨vb,0,none⟩ 1 1 cur1.toArray 9 news jjf hsz ((hW g).trans hg1) (by rw [hm,hnl])
      (fun j u hj=>by rw [Addr.add_lit,Nat.zero_add];exact jbk ((hW vb).trans hv1) (by simpa using hj)) (by rw [hnl];simp [hl1];omega) h1n
     rw [this,hm,hc2,hnl];rfl
    have hW2:∀ (W:World),(∀ k,W.heap[k]? = W1.heap[k]?)→W.os=W1.os→W.tape=W1.tape→W.output=W1.output→W.heap.size=W1.heap.size→(W.setRow g cur2.toArray).ownsRow base 9 1 (.slice (some ⟨g,0,none⟩) (n+1) cap) (n+1) (us.take i ++ news ++ us.drop i)∧w.grownBy (W.setRow g cur2.toArray) (some g):=fun W hW e1 e2 e3 e4=>by
     refine ⟨jnr hb1 (setRow_heap W g cur1.toArray _ _ _ ((hW g).trans hg1)) hroom hcm (by show cur2.length=_;rw [hp2,hlc]) (by rw [show (n+1)*1=(n*1)+1 from by omega];exact hp1),?_⟩;have hgr2:=jby W g cur2.toArray;refine ⟨hgr2.os.trans (e1.trans hgr1.os),hgr2.tape.trans (e2.trans hgr1.tape),hgr2.output.trans (e3.trans hgr1.output),Nat.le_trans hgr1.size (Nat.le_trans (by omega) hgr2.size),fun k hk hr=>?_⟩;rw [hgr2.block k (by have:=hgr1.size;omega) hr,hW,hgr1.block k hk hr]
    have mixed:Tryz.prog.follows Departure.mixedOrders=true:=by kernel_rfl
    have HOV:=hid hov;have HW2:=hid hW2;have hw1:IntKind.i64.wrap ((i:Int)+1)=(i:Int)+1:=by rw [IntKind.wrap_i64];omega
    have hwn:IntKind.i64.wrap ((n:Int)+1)=(n:Int)+1:=by rw [IntKind.wrap_i64];omega
    have hb1':(0:Int)≤(i:Int)+1:=by omega
    have hin':¬ (i:Int)=(n:Int):=by omega
    have htn:((i:Int)+1).toNat=i+1:=by omega
    have htm:((n:Int)+1).toNat=n+1:=by omega
    have hb2:¬ (cap=i+1):=by omega
    have hb3:(i:Int)≤(n:Int)+1:=by omega
    have hb4:¬ (cap=i):=by omega
    have hb5:(n:Int)+1≤(cap:Int):=by omega
    have hb6:¬ ((cap:Int)<(n:Int)+1):=by omega
    clear hp1 hp2 hc2 hc1 hl1 hlc hg1 hv1 hx hcs hg hv husc hnew hdl hgr1 hW2 hov h hW1;go_enter Tryz.func155,Tryz.ntmps155
    go_wp2_with (simp only [HOV.out])
    go_region_law_o (refine step_copy_runI rfl _ _ 39 39 rfl _ _ (by simp [Act.eval,Act.put]) (by simp [Act.eval,Act.put]) (hcp1 _ _ _) ?_)
    go_wp2_with (at_builtin;refine wpList_copy_runI _ rfl _ _ 39 39 rfl _ _ rfl rfl (hcp2 _ (fun _=>rfl) _ _) ?_)
    go_ret;obtain ⟨r1,r2⟩:=HW2.out _ (fun _=>rfl) rfl rfl rfl rfl;exact ⟨_,rfl,r1,r2,fun k hk=>.inl hk⟩
   ·have hcn:cap=n:=by omega
    subst hcn;have hi0:i≤(cap*1):=by omega
    obtain ⟨i0,hinfo,hz0,hzs,hzb⟩:=info_parts jtp;have hdl:(us.drop i).length=(cap-i)*1:=by rw [List.length_drop,hul];omega
    have hold:(Builtin.firstCells i0.size i (.slice (some ⟨g,0,none⟩) i cap)).run Tryz.prog w.drew = .ok (us.take i).toArray w.drew:=by
     rw [hzs];exact run_firstCells_some w.drew 1 i ⟨g,0,none⟩ i cap (us.take i) (by rw [List.length_take];omega) (fun j u hj=>by
      rw [Addr.add_lit,Nat.zero_add];rw [List.getElem?_take] at hj;split at hj
      ·exact husc j u hj
      ·cases hj)
    have hkk:(cap:Int)+1-(i:Int)=((cap+1-i:Nat):Int):=by omega
    have hik:i+(cap+1-i)=cap+1:=by omega
    obtain ⟨G,hG⟩:∃ G,G=grownCap w (cap+1) cap 9:=⟨_,rfl⟩;have hGn:cap+1≤G:=by rw [hG];exact grownCap_ge w _ _ _
    have hG63:G≤maxLen:=by rw [hG];exact grownCap_le_maxLen w (cap+1) cap 9 (by unfold maxLen;omega)
    obtain ⟨ROW,hROW⟩:∃ ROW:Array Value,ROW=(us.take i).toArray ++ Builtin.zeroCells (Value.cells (.string ⟨#[]⟩)) (cap+1-i) ++ Builtin.zeroCells (Value.cells (.string ⟨#[]⟩)) (G-(cap+1)):=⟨_,rfl⟩;have hrz:∀ ty,(Builtin.append_ #[39,3] ty #[.slice (some ⟨g,0,none⟩) i cap,.int .i64 ((cap:Int)+1-(i:Int))]).run Tryz.prog w = .ok (.slice (some ⟨w.heap.size,0,none⟩) (cap+1) G) (w.drew.alloc (.cells ROW 9)):=fun ty=>by
     have h:=Lib.run_append_grow_zeros (P:=Tryz.prog) w 39 3 ty 9 i0 _ .i64 .i64 jjf (by kernel_rfl) hinfo hz0 (some ⟨g,0,none⟩) i cap (us.take i) hold (cap+1-i) (by omega) (by rw [hzs];decide) (by omega) (by omega) (by rw [hzb];omega) (by rw [hzb,hik];exact growslice_fits (by omega) hbig);rw [hik] at h;rw [hkk,hROW,hG];exact h
    have hRs:ROW.size=G*1:=by
     rw [hROW];simp [Builtin.zeroCells,Value.cells,hul];omega
    have hRl:ROW.toList.length=G*1:=by simpa using hRs
    have hRt:ROW.toList.take i=us.take i:=by
     rw [hROW,Array.toList_append,Array.toList_append,List.append_assoc];rw [List.take_append_of_le_length (by simp [hul];omega),List.take_of_length_le (by simp;omega)]
    have hp1:=yee (news:=news) hul hRt hi0;have hp2:=jnu (R:=ROW.toList) (news:=news) hul hi0 (by rw [hRl,hnl];omega);rw [hnl] at hp1 hp2;obtain ⟨cur1,hc1⟩:∃ cur1:List Value,cur1=ROW.toList.take i ++ news ++ ROW.toList.drop (i+1):=⟨_,rfl⟩;rw [← hc1] at hp1 hp2;have hl1:cur1.length=G*1:=by rw [hc1];simp only [List.length_append,List.length_take,List.length_drop,hRl,hnl];omega
    obtain ⟨cur2,hc2⟩:∃ cur2:List Value,cur2=cur1.take (i+1) ++ us.drop i ++ cur1.drop (i+1+(us.drop i).length):=⟨_,rfl⟩;rw [← hc2] at hp1 hp2;obtain ⟨W1,hW1⟩:∃ W1,W1=w.drew.alloc (.cells ROW 9):=⟨_,rfl⟩;rw [← hW1] at hrz;have hsz1:W1.heap.size=w.heap.size+1:=by rw [hW1];show (w.heap.push _).size=_;simp
    have hg1:W1.heap[w.heap.size]? = some (.cells ROW 9 (0,0)):=by rw [hW1];show (w.heap.push _)[w.heap.size]? = _;simp
    have hO1:∀ k,k<w.heap.size→W1.heap[k]? = w.heap[k]?:=fun k hk=>by
     rw [hW1];show (w.heap.push _)[k]? = _;rw [Array.getElem?_push,if_neg (by omega)]
    have hcpA:∀ (W:World),(∀ k,W.heap[k]? = W1.heap[k]?)→∀ ty dc,(Builtin.copy_ #[39,39] ty #[.slice (some ⟨w.heap.size,i,none⟩) (cap+1-i) dc,.slice (some ⟨vb,0,none⟩) 1 1]).run Tryz.prog W = .ok (goInt 1) (W.setRow w.heap.size cur1.toArray):=fun W hW ty dc=>by
     have hm:Nat.min 1 (cap+1-i)=1:=by simp only [Nat.min_def];split <;> omega
     have:=jcq (P:=Tryz.prog) W 39 39 ty 9 1 w.heap.size i (cap+1-i) dc ⟨vb,0,none⟩ 1 1 ROW 9 news jjf hsz ((hW _).trans hg1) (by rw [hm,hnl])
      (fun j u hj=>by rw [Addr.add_lit,Nat.zero_add];exact jbk (((hW vb).trans (hO1 vb hvl)).trans hv) (by simpa using hj)) (by rw [hnl,hRs];omega) h1n
     rw [this,hm,hc1,hnl];rfl
    have hcpB:∀ (W:World),W.heap[w.heap.size]? = some (.cells cur1.toArray 9 (0,0))→(∀ k,k<w.heap.size→W.heap[k]? = w.heap[k]?)→∀ ty dc sc,(Builtin.copy_ #[39,39] ty #[.slice (some ⟨w.heap.size,(i+1),none⟩) (cap-i) dc,.slice (some ⟨g,i,none⟩) (cap-i) sc]).run Tryz.prog W = .ok (goInt (cap-i:Nat)) (W.setRow w.heap.size cur2.toArray):=fun W hWg hWk ty dc sc=>by
     have hm:Nat.min (cap-i) (cap-i)=cap-i:=Nat.min_self _;have:=jcq (P:=Tryz.prog) W 39 39 ty 9 1 w.heap.size (i+1) (cap-i) dc ⟨g,i,none⟩ (cap-i) sc cur1.toArray 9 (us.drop i) jjf hsz hWg (by rw [hdl,hm])
      (fun j u hj=>by
       rw [Addr.add_lit,World.cell?_of_block (w:=w) (hWk g hgl)];exact husc (i+j) u (by rwa [List.getElem?_drop] at hj)) (by rw [hdl];simp [hl1];omega) (fun u hu=>h1 u (List.mem_of_mem_drop hu))
     have e1:(i+1)=i+1:=by omega
     rw [this,hm,hc2]
     try (first | rfl | rw [e1])
    have hEnd:∀ (W:World),(∀ k,k<w.heap.size→W.heap[k]? = w.heap[k]?)→W.heap[w.heap.size]? = some (.cells cur1.toArray 9 (0,0))→W.os=w.os→W.tape=w.tape→W.output=w.output→w.heap.size≤W.heap.size→(W.setRow w.heap.size cur2.toArray).ownsRow base 9 1 (.slice (some ⟨w.heap.size,0,none⟩) (cap+1) G) (cap+1) (us.take i ++ news ++ us.drop i)∧w.grownBy (W.setRow w.heap.size cur2.toArray) (some g):=fun W hWk hWg e1 e2 e3 e4=>by
     refine ⟨jnr hbase (setRow_heap W w.heap.size cur1.toArray _ _ _ hWg) hGn hG63 (by show cur2.length=_;rw [hp2,hRl]) (by rw [show (cap+1)*1=(cap*1)+1 from by omega];exact hp1),?_⟩;have hgr2:=jby W w.heap.size cur2.toArray;refine ⟨hgr2.os.trans e1,hgr2.tape.trans e2,hgr2.output.trans e3,Nat.le_trans e4 hgr2.size,fun k hk hr=>?_⟩;rw [hgr2.block k (by omega) (by intro e;injection e with e;omega),hWk k hk]
    have hA2:(W1.setRow w.heap.size cur1.toArray).heap[w.heap.size]? = some (.cells cur1.toArray 9 (0,0)):=setRow_heap W1 _ ROW _ _ _ hg1;have hA3:∀ k,k<w.heap.size→(W1.setRow w.heap.size cur1.toArray).heap[k]? = w.heap[k]?:=fun k hk=>((jby W1 w.heap.size cur1.toArray).block k (by omega) (by intro e;injection e with e;omega)).trans (hO1 k hk);have hA4:w.heap.size≤(W1.setRow w.heap.size cur1.toArray).heap.size:=by rw [jpw];omega
    have hA5:(W1.setRow w.heap.size cur1.toArray).os=w.os∧(W1.setRow w.heap.size cur1.toArray).tape=w.tape∧(W1.setRow w.heap.size cur1.toArray).output=w.output:=by rw [hW1];exact ⟨rfl,rfl,rfl⟩
    have hcpC:∀ ty dc sc,(Builtin.copy_ #[39,39] ty #[.slice (some ⟨w.heap.size,(i+1),none⟩) (cap-i) dc,.slice (some ⟨g,i,none⟩) (cap-i) sc]).run Tryz.prog (W1.setRow w.heap.size cur1.toArray).drew = .ok (goInt (cap-i:Nat)) ((W1.setRow w.heap.size cur1.toArray).drew.setRow w.heap.size cur2.toArray):=fun ty dc sc=>hcpB (W1.setRow w.heap.size cur1.toArray).drew hA2 hA3 ty dc sc;clear hcpB;have HE:=hid hEnd;have HA:=hid (And.intro hA2 (And.intro hA3 (And.intro hA4 hA5)));have mixed:Tryz.prog.follows Departure.mixedOrders=true:=by kernel_rfl
    have hw1:IntKind.i64.wrap ((i:Int)+1)=(i:Int)+1:=by rw [IntKind.wrap_i64];omega
    have hwn:IntKind.i64.wrap ((cap:Int)+1)=(cap:Int)+1:=by rw [IntKind.wrap_i64];omega
    have hwm:IntKind.i64.wrap ((cap:Int)+1-(i:Int))=(cap:Int)+1-(i:Int):=by rw [IntKind.wrap_i64];omega
    have hb1':(0:Int)≤(i:Int)+1:=by omega
    have hin':¬ (i:Int)=(cap:Int):=by omega
    have htn:((i:Int)+1).toNat=i+1:=by omega
    have hb2:¬ (G=i+1):=by omega
    have hb3:(i:Int)≤(cap:Int)+1:=by omega
    have hb4:¬ (cap=i):=by omega
    have hb5:(i:Int)≤(cap:Int):=by omega
    have hb6:(cap:Int)<(cap:Int)+1:=by omega
    have hb7:¬ (G=i):=by omega
    have hG63':G≤9223372036854775807:=by unfold maxLen at hG63;omega
    clear hp1 hp2 hc2 hc1 hl1 hlc hx hcs hg hv husc hnew hdl h hROW hRs hRl hRt hold hkk hik hG hEnd hA2 hA3 hA4 hA5 hinfo hz0 hzs hzb hW1 hg1 hO1 hsz1;go_enter Tryz.func155,Tryz.ntmps155
    go_wp2_with (first
     | (at_builtin;refine Lib.wpList_append_run _ rfl _ _ _ _ rfl _ _ rfl rfl _ _ (hrz _) ?_)
     | (at_builtin;refine wpList_copy_runI _ rfl _ _ 39 39 rfl _ _ rfl rfl (hcpA _ (fun _=>rfl) _ _) ?_))
    go_region_law_o (refine step_copy_runI rfl _ _ 39 39 rfl (.slice (some ⟨w.heap.size,(i+1),none⟩) (cap-i) (G-(i+1))) (.slice (some ⟨g,i,none⟩) (cap-i) (cap-i)) (by simp [Act.eval,Act.put]) (by simp [Act.eval,Act.put]) (hcpC 3 (G-(i+1)) (cap-i)) ?_)
    go_wp2;go_ret;obtain ⟨r1,r2⟩:=HE.out (W1.setRow w.heap.size cur1.toArray).drew HA.out.2.1 HA.out.1 HA.out.2.2.2.1 HA.out.2.2.2.2.1 HA.out.2.2.2.2.2 HA.out.2.2.1;exact ⟨_,rfl,r1,r2,fun k hk=>.inr (by injection hk with hk;subst hk;exact Nat.le_refl _)⟩
end Go.Proofs.YthmlndmlnlfhnaaGreatDoor
