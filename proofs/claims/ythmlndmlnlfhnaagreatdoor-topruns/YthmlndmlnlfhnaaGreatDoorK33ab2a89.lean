import Derived.Ground.NamesProg
import Derived.Shelf.Strings.SlTrimAscii
import Derived.Shelf.Strings.Prefix
import Derived.Shelf.Strconv.AtoiAll
import Derived.Shelf.Strconv.Itoa3
import Derived.Shelf.Strings.OnBuilder
import Derived.Test.YthmlndmlnlfhnaaGreatDoorProg
import Derived.Test.YthmlndmlnlfhnaaGreatDoorChecked
import Derived.Test.YthmlndmlnlfhnaaGreatDoorKa3f707c7
import Derived.Test.YthmlndmlnlfhnaaGreatDoorK5de86456
import Derived.Test.YthmlndmlnlfhnaaGreatDoorK9234bc57
set_option maxRecDepth 100000
set_option maxHeartbeats 16000000
namespace Go.Proofs.YthmlndmlnlfhnaaGreatDoor
open Go.RowKit Go.Shelf
theorem yqb {z:List (TabD × RawT)} (hz:∀ p∈z,p.2.1=p.1.name):jdc (fun x:RawT=>x.1) (z.map (·.2))=jdc (·.name) (z.map (·.1)):=by
 have:jdc (fun x:RawT=>x.1) (z.map (·.2))=true↔jdc (·.name) (z.map (·.1))=true:=by
  rw [jlb,jlb,List.pairwise_map,List.pairwise_map]
  constructor
  ·intro h;exact h.imp_of_mem fun ha hb hx=>by simpa only [hz _ ha,hz _ hb] using hx
  ·intro h;exact h.imp_of_mem fun ha hb hx=>by simpa only [hz _ ha,hz _ hb] using hx
 cases h1:jdc (fun x:RawT=>x.1) (z.map (·.2)) <;> cases h2:jdc (·.name) (z.map (·.1)) <;> simp_all
theorem yr9 {z:List (TabD × RawT)} (hz:∀ p∈z,p.2.1=p.1.name) (s:ByteArray):posF (fun x:RawT=>x.1) (z.map (·.2)) s=posF (·.name) (z.map (·.1)) s:=by
 unfold posF
 rw [List.takeWhile_map,List.takeWhile_map,List.length_map,List.length_map]
 congr 1
 induction z with
 | nil=>rfl
 | cons p z ih =>
  have e:ltS p.2.1 s=ltS p.1.name s:=by rw [hz p (by simp)]
  have ih':=ih fun q hq=>hz q (by simp [hq])
  simp only [List.takeWhile_cons,Function.comp] at ih' ⊢
  simp only [e]
  split
  ·congr 1
  ·rfl
theorem yoo (l:List DomD) (d:DomD):(l.flatMap ja0).take (posF (fun x:DomD=>x.1) l d.1*3) ++ ja0 d ++ (l.flatMap ja0).drop (posF (fun x:DomD=>x.1) l d.1*3)=(insF (fun x:DomD=>x.1) l d).flatMap ja0:=by
 rw [juh,List.flatMap_append,List.flatMap_cons,jp6 jll,yax jll,List.append_assoc]
theorem yrk (z:List (TabD × RawT)) (p:TabD × RawT) (i:Nat):((z.map (·.2)).flatMap jbc).take (i*5) ++ jbc p.2 ++ ((z.map (·.2)).flatMap jbc).drop (i*5)=((z.take i ++ p :: z.drop i).map (·.2)).flatMap jbc:=by
 rw [List.map_append,List.map_cons,List.flatMap_append,List.flatMap_cons,List.map_take,List.map_drop,jp6 jlm,yax jlm,List.append_assoc]
theorem ycz {b:BookD} {s:ByteArray} (h:jdc (·.1) b.doms=true):jdc (fun x:DomD=>x.1) (ja2 b s).doms=true:=jm1 h _
theorem yad (b:BookD) (nm:ByteArray) (lo hi:Int) (v:Value) (w:World) (S:Nat→Prop) (h:jar w S b v) (hS:∀ k,S k→k<w.heap.size) (hd:b.doms.length*32≤100000000000000) (ht:b.tabs.length*80≤140737488355328) (hr:jdc (·.1) b.doms=true) :
  Calls Tryz.prog 62 #[v,.agg #[.string nm,.int .i64 lo,.int .i64 hi]] w fun e w'=>∃ u,e = .returned u∧jli w' w.heap.size S (jgj b (nm,lo,hi)) u∧Below w.heap.size w w':=by
 have HR:=Lib.hid (ycz (s:=nm) hr)
 obtain ⟨vd,vt,rfl,h1,h2⟩:=h
 have H1:=Lib.hid h1
 have H2:=Lib.hid h2
 have HS:=Lib.hid hS
 have EW:Hid (jgj b (nm,lo,hi) = ⟨insF (fun x:DomD=>x.1) (ja2 b nm).doms (nm,lo,hi),(ja2 b nm).tabs⟩):=rfl
 generalize jgj b (nm,lo,hi)=R at *
 obtain ⟨A,c,rfl,-,-⟩:=h1.form
 obtain ⟨B,d,rfl,-,-⟩:=h2.form
 clear h1 h2 hS hr
 have hd:b.doms.length*32≤140737488355328:=by omega
 have hb0:=jac w (.cells #[.slice A b.doms.length c,.slice B b.tabs.length d] 38)
 have C0:=Lib.hid (Cs.new w [.slice A b.doms.length c,.slice B b.tabs.length d] 38)
 have hz0:(w.alloc (.cells #[.slice A b.doms.length c,.slice B b.tabs.length d] 38)).heap.size=w.heap.size+1:=by simp
 change Hid (Cs (w.alloc (.cells #[.slice A b.doms.length c,.slice B b.tabs.length d] 38)) _ _) at C0
 generalize hw0:w.alloc (.cells #[.slice A b.doms.length c,.slice B b.tabs.length d] 38)=w0 at *
 have hb1:=jac w0 (.cells #[.string nm,.int .i64 lo,.int .i64 hi] 58)
 have C1:=Lib.hid (Cs.new w0 [.string nm,.int .i64 lo,.int .i64 hi] 58)
 have hz1:(w0.alloc (.cells #[.string nm,.int .i64 lo,.int .i64 hi] 58)).heap.size=w.heap.size+2:=by simp;omega
 change Hid (Cs (w0.alloc (.cells #[.string nm,.int .i64 lo,.int .i64 hi] 58)) _ _) at C1
 rw [hz0] at C1
 have C01:=Lib.hid (C0.out.next hb1)
 have hb01:=bx hb0 hb1
 generalize hw1:w0.alloc (.cells #[.string nm,.int .i64 lo,.int .i64 hi] 58)=w1 at *
 have hb2:=jac w1 (.cells #[.slice none 0 0,.slice none 0 0] 38)
 have C2:=Lib.hid (Cs.new w1 [.slice none 0 0,.slice none 0 0] 38)
 have hz2:(w1.alloc (.cells #[.slice none 0 0,.slice none 0 0] 38)).heap.size=w.heap.size+3:=by simp;omega
 change Hid (Cs (w1.alloc (.cells #[.slice none 0 0,.slice none 0 0] 38)) _ _) at C2
 rw [hz1] at C2
 have C02:=Lib.hid (C01.out.next hb2)
 have C12:=Lib.hid (C1.out.next hb2)
 have hb02:=bx hb01 hb2
 generalize hw2:w1.alloc (.cells #[.slice none 0 0,.slice none 0 0] 38)=w2 at *
 have k0:=C02.out.at 0 rfl
 have k1:=C02.out.at 1 rfl
 have n0:=C12.out.at 0 rfl
 have n1:=C12.out.at 1 rfl
 have n2:=C12.out.at 2 rfl
 have HB2:Hid (jar w2 S b (.agg #[.slice A b.doms.length c,.slice B b.tabs.length d])):=⟨_,_,rfl,H1.out.keep (fun p hp=>World.cell?_of_block (hb02.block _ (HS.out _ hp))),H2.out.keep (fun p hp=>World.cell?_of_block (hb02.block _ (HS.out _ hp)))⟩
 go_enter Tryz.func62,Tryz.ntmps62
 go_wp2_with fail
 clear hw0 hw1 hw2 C0 C1 C01 hb0 hb1 hb2 hb01 k0 k1
 refine (jk0 b nm _ _ S HB2.out (fun k hk=>Nat.lt_of_lt_of_le (HS.out k hk) hb02.size) hd ht).mono ?_
 rintro e w3 ⟨u,rfl,hu,hb3⟩
 clear n0 n1 n2
 obtain ⟨vd,vt,rfl,o1,o2,hap⟩:=hu
 have O1:=Lib.hid o1
 have O2:=Lib.hid o2
 have HAP:=Lib.hid hap
 have hlen:=jha b nm
 generalize hwb:ja2 b nm=wb at *
 obtain ⟨A2,c2,rfl,-,-,-⟩:=jah o1
 obtain ⟨us2,x1,x2⟩:=o2
 obtain ⟨B2,d2,rfl,-,-,-⟩:=jah x1
 have hbz:=jac w3 (.cells #[.slice A2 wb.doms.length c2,.slice B2 wb.tabs.length d2] 38)
 have CX:=Lib.hid (Cs.new w3 [.slice A2 wb.doms.length c2,.slice B2 wb.tabs.length d2] 38)
 change Hid (Cs (w3.alloc (.cells #[.slice A2 wb.doms.length c2,.slice B2 wb.tabs.length d2] 38)) _ _) at CX
 have C14:=Lib.hid ((C12.out.next hb3).next hbz)
 have C24:=Lib.hid ((C2.out.next hb3).next hbz)
 have hb34:=bx hb3 hbz
 have hb04:=bx hb02 hb34
 have hz4:(w3.alloc (.cells #[.slice A2 wb.doms.length c2,.slice B2 wb.tabs.length d2] 38)).heap.size=w3.heap.size+1:=by simp
 have hs3:=hb3.size
 have O1z:Hid ((w3.alloc (.cells #[.slice A2 wb.doms.length c2,.slice B2 wb.tabs.length d2] 38)).ownsRow w2.heap.size 58 3 (.slice A2 wb.doms.length c2) wb.doms.length (wb.doms.flatMap ja0)):=ja1 O1.out (fun k hk=>hbz.block k (O1.out.lt k hk).2)
 have O2z:Hid (OwnS Enc.tab (w3.alloc (.cells #[.slice A2 wb.doms.length c2,.slice B2 wb.tabs.length d2] 38)) w2.heap.size S 56 (.slice B2 wb.tabs.length d2) wb.tabs):=O2.out.keep (fun k hk=>hbz.block k (O2.out.lt k hk).2) (fun k hk=>hbz.block k (by have:=HS.out k hk;omega))
 have HL1:Hid (∀ k,(Value.slice A2 wb.doms.length c2).ownBlock=some k→w2.heap.size≤k∧k<w3.heap.size):=fun k hk=>O1.out.lt k hk
 have HL2:Hid (∀ k,(Value.slice B2 wb.tabs.length d2).ownBlock=some k→w2.heap.size≤k∧k<w3.heap.size):=fun k hk=>O2.out.lt k hk
 have x0:=CX.out.at 0 rfl
 have n0:=C14.out.at 0 rfl
 go_wp2_with fail
 generalize hw4:w3.alloc (.cells #[.slice A2 wb.doms.length c2,.slice B2 wb.tabs.length d2] 38)=w4 at *
 clear hw4
 have RW:=Lib.hid (jkl O1z.out (yfo _))
 refine (yia wb.doms _ nm _ RW.out (fun k hk=>by have:=(HL1.out k hk).2;omega) HR.out (by omega)).mono ?_
 rintro e w5 ⟨⟨fb,rfl⟩,hb5⟩
 have hb05:=bx hb04 hb5
 have CX5:=Lib.hid (CX.out.next hb5)
 have C15:=Lib.hid (C14.out.next hb5)
 have C25:=Lib.hid (C24.out.next hb5)
 have O15:Hid (w5.ownsRow w2.heap.size 58 3 (.slice A2 wb.doms.length c2) wb.doms.length (wb.doms.flatMap ja0)):=ja1 O1z.out (fun k hk=>hb5.block k (by have:=(HL1.out k hk).2;omega))
 have O25:=Lib.hid (O2z.out.keep (w':=w5) (fun k hk=>hb5.block k (by have:=(HL2.out k hk).2;omega)) (fun k hk=>hb5.block k (by have:=HS.out k hk;omega)))
 clear n0 x0 RW
 have hpl:=jpr (f:=fun x:DomD=>x.1) wb.doms nm
 have HI:=Lib.hid (yoo wb.doms (nm,lo,hi))
 simp only at HI
 generalize hpe:posF (fun x:DomD=>x.1) wb.doms nm=p at *
 have x0:=CX5.out.at 0 rfl
 have n0:=C15.out.at 0 rfl
 have n1:=C15.out.at 1 rfl
 have n2:=C15.out.at 2 rfl
 have hs5:=hb5.size
 have hbn:=jac w5 (.cells #[.string nm,.int .i64 lo,.int .i64 hi] 58)
 have hz6:(w5.alloc (.cells #[.string nm,.int .i64 lo,.int .i64 hi] 58)).heap.size=w5.heap.size+1:=by simp
 have hnew:Hid ((w5.alloc (.cells #[.string nm,.int .i64 lo,.int .i64 hi] 58)).heap[w5.heap.size]? = some (.cells (ja0 (nm,lo,hi)).toArray 58 (0,0))):=by show (w5.heap.push _)[w5.heap.size]? = _;simp [ja0]
 have O16:Hid ((w5.alloc (.cells #[.string nm,.int .i64 lo,.int .i64 hi] 58)).ownsRow w2.heap.size 58 3 (.slice A2 wb.doms.length c2) wb.doms.length (wb.doms.flatMap ja0)):=ja1 O15.out (fun k hk=>hbn.block k (by have:=(HL1.out k hk).2;omega))
 have O26:=Lib.hid (O25.out.keep (w':=w5.alloc (.cells #[.string nm,.int .i64 lo,.int .i64 hi] 58)) (fun k hk=>hbn.block k (by have:=(HL2.out k hk).2;omega)) (fun k hk=>hbn.block k (by have:=HS.out k hk;omega)))
 have CX6:=Lib.hid (CX5.out.next hbn)
 have C26:=Lib.hid (C25.out.next hbn)
 have hb06:=bx hb05 hbn
 go_wp2_with fail
 generalize hw6:w5.alloc (.cells #[.string nm,.int .i64 lo,.int .i64 hi] 58)=w6 at *
 clear hw6 n0 n1 n2 x0
 refine (yrg w2.heap.size _ wb.doms.length p _ (ja0 (nm,lo,hi)) w5.heap.size _ O16.out (yfo _) hpl rfl (yd5 _) hnew.out (fun e=>by have:=(HL1.out _ e).2;omega) (by omega) (by omega)).mono ?_
 rintro e w7 ⟨u7,rfl,o7,hg7,hm7⟩
 rw [HI.out] at o7
 have HO7:=Lib.hid o7
 have HM7:=Lib.hid hm7
 obtain ⟨A7,c7,rfl,-,-,-⟩:=jah o7
 have CX7:=Lib.hid (CX6.out.grownO hg7 (fun e=>by have:=(HL1.out _ e).2;omega))
 have C27:=Lib.hid (C26.out.grownO hg7 (fun e=>by have:=(HL1.out _ e).1;omega))
 have hs7:=hg7.size
 have O27:=Lib.hid (O26.out.grownO hg7 (fun k hk e=>HAP.out k e hk) (fun k hk=>⟨by have:=HS.out k hk;omega,fun e=>by have:=(HL1.out _ e).1;have:=HS.out k hk;omega⟩))
 have hb07:Below w.heap.size w w7:=hb06.trans (jag hg7 (by omega) (fun k e=>by have:=(HL1.out _ e).1;omega))
 have HB7:Hid (∀ k,(Value.slice A7 (wb.doms.length+1) c7).ownBlock=some k→(w2.heap.size≤k∧k<w3.heap.size∧(Value.slice B2 wb.tabs.length d2).ownBlock≠some k)∨w6.heap.size≤k):=fun k hk=>by
  rcases hm7 k hk with h | h
  ·exact .inl ⟨(HL1.out k h).1,(HL1.out k h).2,HAP.out k h⟩
  ·exact .inr h
 have x0:=CX7.out.at 0 rfl
 have x1':=CX7.out.at 1 rfl
 have f0:=CX7.out.2.2 0 (by simp)
 clear o7 hm7
 have CX8:=Lib.hid (CX7.out.set 0 (by simp) (.slice A7 (wb.doms.length+1) c7))
 have y0:=CX8.out.at 0 rfl
 have y1:=CX8.out.at 1 rfl
 have C28:=Lib.hid (C27.out.keep (w':=w7.setCell ⟨w3.heap.size,0,none⟩ (.slice A7 (wb.doms.length+1) c7)) (RowKit.Below.heap_setCell _ _ _ _ (show w.heap.size+2≠w3.heap.size by omega)) (by simp [World.setCell]))
 have r0:=C28.out.at 0 rfl
 have r1:=C28.out.at 1 rfl
 have g0:=C28.out.2.2 0 (by simp)
 have g1:=C28.out.2.2 1 (by simp)
 go_wp2
 refine bodyPost_ret (jla (b:=w.heap.size+2) rfl rfl ((C28.out.set 0 (by simp) _).set 1 (by simp) _)) rfl ⟨_,rfl,?_,((hb07.setCell (by show w.heap.size≤w3.heap.size;omega) _).setCell (by simp) _).setCell (by simp) _⟩
 rw [EW.out]
 have hset:∀ k,k≠w3.heap.size→k≠w.heap.size+2→(((w7.setCell ⟨w3.heap.size,0,none⟩ (.slice A7 (wb.doms.length+1) c7)).setCell ⟨w.heap.size+2,0,none⟩ (.slice A7 (wb.doms.length+1) c7)).setCell ⟨w.heap.size+2,1,none⟩ (.slice B2 wb.tabs.length d2)).heap[k]? = w7.heap[k]?:=fun k hk1 hk2=>by
  rw [RowKit.Below.heap_setCell _ _ _ _ hk2,RowKit.Below.heap_setCell _ _ _ _ hk2,RowKit.Below.heap_setCell _ _ _ _ hk1]
 refine ⟨_,_,rfl,?_,(O27.out.keep (fun k hk=>hset k (by have:=(HL2.out k hk).2;omega) (by have:=(HL2.out k hk).1;omega)) (fun k hk=>hset k (by have:=HS.out k hk;omega) (by have:=HS.out k hk;omega))).mono (by omega),?_⟩
 ·have h8:=ja1 (w':=((w7.setCell ⟨w3.heap.size,0,none⟩ (.slice A7 (wb.doms.length+1) c7)).setCell ⟨w.heap.size+2,0,none⟩ (.slice A7 (wb.doms.length+1) c7)).setCell ⟨w.heap.size+2,1,none⟩ (.slice B2 wb.tabs.length d2)) HO7.out (fun k hk=>by
   rcases HB7.out k hk with h | h
   ·exact hset k (by omega) (by omega)
   ·exact hset k (by omega) (by omega))
  show World.ownsRow _ _ _ _ _ (insF (fun x:DomD=>x.1) wb.doms (nm,lo,hi)).length _
  rw [jip]
  exact jhl h8 (by omega)
 ·intro k hk e
  rcases HB7.out k hk with h | h
  ·exact h.2.2 e
  ·have:=(HL2.out k e).2;omega
theorem jo6 (b:BookD) (t:TabD) (v vtt:Value) (w:World) (S:Nat→Prop) (h:jar w S b v) (htt:ja9 w S t vtt) (hS:∀ k,S k→k<w.heap.size) (hd:b.doms.length*32≤140737488355328) (ht:b.tabs.length*80≤100000000000000) (hr:jdc (·.name) b.tabs=true) :
  Calls Tryz.prog 61 #[v,vtt] w fun e w'=>∃ u,e = .returned u∧jli w' w.heap.size S (jd1 b t) u∧Below w.heap.size w w':=by
 obtain ⟨nm,pol,comp,ins,rules⟩:=t
 have HR:Hid (jdc (·.name) (ja2 b nm).tabs=true):=jm1 hr _
 obtain ⟨vd,vt,rfl,h1,h2⟩:=h
 obtain ⟨vi,vr,rfl,hi,hrr⟩:=htt
 simp only at hi hrr
 have H1:=Lib.hid h1
 have H2:=Lib.hid h2
 have HS:=Lib.hid hS
 have EW:Hid (jd1 b ⟨nm,pol,comp,ins,rules⟩ = ⟨(ja2 b nm).doms,insF (·.name) (ja2 b nm).tabs ⟨nm,pol,comp,ins,rules⟩⟩):=rfl
 generalize jd1 b ⟨nm,pol,comp,ins,rules⟩=R at *
 obtain ⟨A,c,rfl,-,-⟩:=h1.form
 obtain ⟨B,d,rfl,-,-⟩:=h2.form
 have HTR:Hid (∀ vi vr,Sl Enc.str w S ins vi→Sl Enc.rule w S rules vr→Enc.tab.rd w S ⟨nm,pol,comp,ins,rules⟩ [.string nm,.int .i64 pol,.bool comp,vi,vr]):=fun vi vr a b=>Enc.tab_rd.2 ⟨vi,vr,rfl,a,b⟩
 have HTR':=Lib.hid (HTR.out _ _ hi hrr)
 obtain ⟨ia,ic,rfl,-,-⟩:=hi.form
 obtain ⟨ra,rc,rfl,-,-⟩:=hrr.form
 have HTQ:Hid (Enc.tab.rd w S ⟨nm,pol,comp,ins,rules⟩ (jbc (nm,pol,comp,(ia,ins.length,ic),(ra,rules.length,rc)))):=HTR'.out
 clear h1 h2 hS hr HTR HTR' hi hrr
 have ht:b.tabs.length*80≤140737488355328:=by omega
 have hb0:=jac w (.cells #[.slice A b.doms.length c,.slice B b.tabs.length d] 38)
 have C0:=Lib.hid (Cs.new w [.slice A b.doms.length c,.slice B b.tabs.length d] 38)
 have hz0:(w.alloc (.cells #[.slice A b.doms.length c,.slice B b.tabs.length d] 38)).heap.size=w.heap.size+1:=by simp
 change Hid (Cs (w.alloc (.cells #[.slice A b.doms.length c,.slice B b.tabs.length d] 38)) _ _) at C0
 generalize hw0:w.alloc (.cells #[.slice A b.doms.length c,.slice B b.tabs.length d] 38)=w0 at *
 have hb1:=jac w0 (.cells #[.string nm,.int .i64 pol,.bool comp,.slice ia ins.length ic,.slice ra rules.length rc] 56)
 have C1:=Lib.hid (Cs.new w0 [.string nm,.int .i64 pol,.bool comp,.slice ia ins.length ic,.slice ra rules.length rc] 56)
 have hz1:(w0.alloc (.cells #[.string nm,.int .i64 pol,.bool comp,.slice ia ins.length ic,.slice ra rules.length rc] 56)).heap.size=w.heap.size+2:=by simp;omega
 change Hid (Cs (w0.alloc (.cells #[.string nm,.int .i64 pol,.bool comp,.slice ia ins.length ic,.slice ra rules.length rc] 56)) _ _) at C1
 rw [hz0] at C1
 have C01:=Lib.hid (C0.out.next hb1)
 have hb01:=bx hb0 hb1
 generalize hw1:w0.alloc (.cells #[.string nm,.int .i64 pol,.bool comp,.slice ia ins.length ic,.slice ra rules.length rc] 56)=w1 at *
 have hb2:=jac w1 (.cells #[.slice none 0 0,.slice none 0 0] 38)
 have C2:=Lib.hid (Cs.new w1 [.slice none 0 0,.slice none 0 0] 38)
 have hz2:(w1.alloc (.cells #[.slice none 0 0,.slice none 0 0] 38)).heap.size=w.heap.size+3:=by simp;omega
 change Hid (Cs (w1.alloc (.cells #[.slice none 0 0,.slice none 0 0] 38)) _ _) at C2
 rw [hz1] at C2
 have C02:=Lib.hid (C01.out.next hb2)
 have C12:=Lib.hid (C1.out.next hb2)
 have hb02:=bx hb01 hb2
 generalize hw2:w1.alloc (.cells #[.slice none 0 0,.slice none 0 0] 38)=w2 at *
 have k0:=C02.out.at 0 rfl
 have k1:=C02.out.at 1 rfl
 have n0:=C12.out.at 0 rfl
 have n1:=C12.out.at 1 rfl
 have n2:=C12.out.at 2 rfl
 have n3:=C12.out.at 3 rfl
 have n4:=C12.out.at 4 rfl
 have HB2:Hid (jar w2 S b (.agg #[.slice A b.doms.length c,.slice B b.tabs.length d])):=⟨_,_,rfl,H1.out.keep (fun p hp=>World.cell?_of_block (hb02.block _ (HS.out _ hp))),H2.out.keep (fun p hp=>World.cell?_of_block (hb02.block _ (HS.out _ hp)))⟩
 go_enter Tryz.func61,Tryz.ntmps61
 go_wp2_with fail
 clear hw0 hw1 hw2 C0 C1 C01 hb0 hb1 hb2 hb01 k0 k1
 refine (jk0 b nm _ _ S HB2.out (fun k hk=>Nat.lt_of_lt_of_le (HS.out k hk) hb02.size) hd ht).mono ?_
 rintro e w3 ⟨u,rfl,hu,hb3⟩
 clear n0 n1 n2 n3 n4
 obtain ⟨vd,vt,rfl,o1,o2,hap⟩:=hu
 have O1:=Lib.hid o1
 have O2:=Lib.hid o2
 have HAP:=Lib.hid hap
 have hlen:=jha b nm
 generalize hwb:ja2 b nm=wb at *
 obtain ⟨A2,c2,rfl,-,-,-⟩:=jah o1
 obtain ⟨us2,x1,x2⟩:=o2
 obtain ⟨B2,d2,rfl,-,-,-⟩:=jah x1
 have hbz:=jac w3 (.cells #[.slice A2 wb.doms.length c2,.slice B2 wb.tabs.length d2] 38)
 have CX:=Lib.hid (Cs.new w3 [.slice A2 wb.doms.length c2,.slice B2 wb.tabs.length d2] 38)
 change Hid (Cs (w3.alloc (.cells #[.slice A2 wb.doms.length c2,.slice B2 wb.tabs.length d2] 38)) _ _) at CX
 have C14:=Lib.hid ((C12.out.next hb3).next hbz)
 have C24:=Lib.hid ((C2.out.next hb3).next hbz)
 have hb34:=bx hb3 hbz
 have hb04:=bx hb02 hb34
 have hz4:(w3.alloc (.cells #[.slice A2 wb.doms.length c2,.slice B2 wb.tabs.length d2] 38)).heap.size=w3.heap.size+1:=by simp
 have hs3:=hb3.size
 have O1z:Hid ((w3.alloc (.cells #[.slice A2 wb.doms.length c2,.slice B2 wb.tabs.length d2] 38)).ownsRow w2.heap.size 58 3 (.slice A2 wb.doms.length c2) wb.doms.length (wb.doms.flatMap ja0)):=ja1 O1.out (fun k hk=>hbz.block k (O1.out.lt k hk).2)
 have O2z:Hid (OwnS Enc.tab (w3.alloc (.cells #[.slice A2 wb.doms.length c2,.slice B2 wb.tabs.length d2] 38)) w2.heap.size S 56 (.slice B2 wb.tabs.length d2) wb.tabs):=O2.out.keep (fun k hk=>hbz.block k (O2.out.lt k hk).2) (fun k hk=>hbz.block k (by have:=HS.out k hk;omega))
 have HL1:Hid (∀ k,(Value.slice A2 wb.doms.length c2).ownBlock=some k→w2.heap.size≤k∧k<w3.heap.size):=fun k hk=>O1.out.lt k hk
 have HL2:Hid (∀ k,(Value.slice B2 wb.tabs.length d2).ownBlock=some k→w2.heap.size≤k∧k<w3.heap.size):=fun k hk=>O2.out.lt k hk
 have x1':=CX.out.at 1 rfl
 have n0:=C14.out.at 0 rfl
 go_wp2_with fail
 generalize hw4:w3.alloc (.cells #[.slice A2 wb.doms.length c2,.slice B2 wb.tabs.length d2] 38)=w4 at *
 clear hw4
 have ZB:=Lib.hid (yav x2 x1.1)
 obtain ⟨z,zz1,zz2,zz3,zz4⟩:=ZB.out
 subst zz2
 have hzl:(z.map (·.2)).length=wb.tabs.length:=by rw [← zz1];simp
 have Z1:=Lib.hid zz1
 have Z3:=Lib.hid zz3
 have Z4:=Lib.hid zz4
 have ZL:=Lib.hid hzl
 have X1:=Lib.hid x1
 have hb04':=Lib.hid hb04
 clear zz1 zz3 zz4 hzl x1 x2 ZB
 have X4:Hid (w4.ownsRow w2.heap.size 56 5 (.slice B2 wb.tabs.length d2) wb.tabs.length ((z.map (·.2)).flatMap jbc)):=ja1 X1.out (fun k hk=>hbz.block k (HL2.out k hk).2)
 have RW:Hid (Raw w4 5 (.slice B2 wb.tabs.length d2) (z.map (·.2)).length ((z.map (·.2)).flatMap jbc)):=ZL.out.symm ▸ jkl X4.out (yfp _)
 have HRZ:Hid (jdc (fun x:RawT=>x.1) (z.map (·.2))=true):=by show _=_;rw [yqb Z4.out,Z1.out];exact HR.out
 have hzb:(z.map (·.2)).length<4611686018427387904:=by rw [ZL.out];omega
 refine (yib (z.map (·.2)) _ nm _ RW.out (fun k hk=>by have:=(HL2.out k hk).2;omega) HRZ.out hzb).mono ?_
 have HPE:=Lib.hid (yr9 Z4.out nm)
 rw [HPE.out,Z1.out]
 rintro e w5 ⟨⟨fb,rfl⟩,hb5⟩
 have hb05:=bx hb04 hb5
 have CX5:=Lib.hid (CX.out.next hb5)
 have C15:=Lib.hid (C14.out.next hb5)
 have C25:=Lib.hid (C24.out.next hb5)
 have O15:Hid (w5.ownsRow w2.heap.size 58 3 (.slice A2 wb.doms.length c2) wb.doms.length (wb.doms.flatMap ja0)):=ja1 O1z.out (fun k hk=>hb5.block k (by have:=(HL1.out k hk).2;omega))
 have X5:Hid (w5.ownsRow w2.heap.size 56 5 (.slice B2 wb.tabs.length d2) wb.tabs.length ((z.map (·.2)).flatMap jbc)):=ja1 X4.out (fun k hk=>hb5.block k (by have:=(HL2.out k hk).2;omega))
 clear n0 x1' RW HRZ HPE
 have hpl:=jpr (f:=(·.name)) wb.tabs nm
 have HIF:=Lib.hid (juh (f:=(·.name)) wb.tabs ⟨nm,pol,comp,ins,rules⟩)
 simp only at HIF
 generalize hpe:posF (·.name) wb.tabs nm=p at *
 have x1':=CX5.out.at 1 rfl
 have n0:=C15.out.at 0 rfl
 have n1:=C15.out.at 1 rfl
 have n2:=C15.out.at 2 rfl
 have n3:=C15.out.at 3 rfl
 have n4:=C15.out.at 4 rfl
 have hs5:=hb5.size
 have hbn:=jac w5 (.cells #[.string nm,.int .i64 pol,.bool comp,.slice ia ins.length ic,.slice ra rules.length rc] 56)
 have hz6:(w5.alloc (.cells #[.string nm,.int .i64 pol,.bool comp,.slice ia ins.length ic,.slice ra rules.length rc] 56)).heap.size=w5.heap.size+1:=by simp
 have hnew:Hid ((w5.alloc (.cells #[.string nm,.int .i64 pol,.bool comp,.slice ia ins.length ic,.slice ra rules.length rc] 56)).heap[w5.heap.size]? = some (.cells (jbc (nm,pol,comp,(ia,ins.length,ic),(ra,rules.length,rc))).toArray 56 (0,0))):=by show (w5.heap.push _)[w5.heap.size]? = _;simp [jbc]
 have O16:Hid ((w5.alloc (.cells #[.string nm,.int .i64 pol,.bool comp,.slice ia ins.length ic,.slice ra rules.length rc] 56)).ownsRow w2.heap.size 58 3 (.slice A2 wb.doms.length c2) wb.doms.length (wb.doms.flatMap ja0)):=ja1 O15.out (fun k hk=>hbn.block k (by have:=(HL1.out k hk).2;omega))
 have X6:Hid ((w5.alloc (.cells #[.string nm,.int .i64 pol,.bool comp,.slice ia ins.length ic,.slice ra rules.length rc] 56)).ownsRow w2.heap.size 56 5 (.slice B2 wb.tabs.length d2) wb.tabs.length ((z.map (·.2)).flatMap jbc)):=ja1 X5.out (fun k hk=>hbn.block k (by have:=(HL2.out k hk).2;omega))
 have CX6:=Lib.hid (CX5.out.next hbn)
 have C26:=Lib.hid (C25.out.next hbn)
 have hb06:=bx hb05 hbn
 go_wp2_with fail
 generalize hw6:w5.alloc (.cells #[.string nm,.int .i64 pol,.bool comp,.slice ia ins.length ic,.slice ra rules.length rc] 56)=w6 at *
 clear hw6 n0 n1 n2 n3 n4 x1'
 refine (yri w2.heap.size _ wb.tabs.length p _ (jbc (nm,pol,comp,(ia,ins.length,ic),(ra,rules.length,rc))) w5.heap.size _ X6.out (yfp _) hpl rfl (yd7 _) hnew.out (fun e=>by have:=(HL2.out _ e).2;omega) (by omega) (by omega)).mono ?_
 rintro e w7 ⟨u7,rfl,o7,hg7,hm7⟩
 have EI:=yrk z (⟨nm,pol,comp,ins,rules⟩,(nm,pol,comp,(ia,ins.length,ic),(ra,rules.length,rc))) p
 simp only at EI
 rw [EI] at o7
 clear EI
 have HO7:=Lib.hid o7
 obtain ⟨A7,c7,rfl,-,-,-⟩:=jah o7
 have CX7:=Lib.hid (CX6.out.grownO hg7 (fun e=>by have:=(HL2.out _ e).2;omega))
 have C27:=Lib.hid (C26.out.grownO hg7 (fun e=>by have:=(HL2.out _ e).1;omega))
 have hs7:=hg7.size
 have O17:Hid (w7.ownsRow w2.heap.size 58 3 (.slice A2 wb.doms.length c2) wb.doms.length (wb.doms.flatMap ja0)):=ja1 O16.out (fun k hk=>hg7.block k (by have:=(HL1.out k hk).2;omega) (fun e=>HAP.out k hk e.symm))
 have hb07:Below w.heap.size w w7:=hb06.trans (jag hg7 (by omega) (fun k e=>by have:=(HL2.out _ e).1;omega))
 have HB7:Hid (∀ k,(Value.slice A7 (wb.tabs.length+1) c7).ownBlock=some k→(w2.heap.size≤k∧k<w3.heap.size∧(Value.slice A2 wb.doms.length c2).ownBlock≠some k)∨w6.heap.size≤k):=fun k hk=>by
  rcases hm7 k hk with h | h
  ·exact .inl ⟨(HL2.out k h).1,(HL2.out k h).2,fun e=>HAP.out k e h⟩
  ·exact .inr h
 have x0:=CX7.out.at 0 rfl
 have x1':=CX7.out.at 1 rfl
 have f1:=CX7.out.2.2 1 (by simp)
 clear o7 hm7
 have CX8:=Lib.hid (CX7.out.set 1 (by simp) (.slice A7 (wb.tabs.length+1) c7))
 have y0:=CX8.out.at 0 rfl
 have y1:=CX8.out.at 1 rfl
 have C28:=Lib.hid (C27.out.keep (w':=w7.setCell ⟨w3.heap.size,1,none⟩ (.slice A7 (wb.tabs.length+1) c7)) (RowKit.Below.heap_setCell _ _ _ _ (show w.heap.size+2≠w3.heap.size by omega)) (by simp [World.setCell]))
 have r0:=C28.out.at 0 rfl
 have r1:=C28.out.at 1 rfl
 have g0:=C28.out.2.2 0 (by simp)
 have g1:=C28.out.2.2 1 (by simp)
 go_wp2
 refine bodyPost_ret (jla (b:=w.heap.size+2) rfl rfl ((C28.out.set 0 (by simp) _).set 1 (by simp) _)) rfl ⟨_,rfl,?_,((hb07.setCell (by show w.heap.size≤w3.heap.size;omega) _).setCell (by simp) _).setCell (by simp) _⟩
 rw [EW.out]
 have hset:∀ k,k≠w3.heap.size→k≠w.heap.size+2→(((w7.setCell ⟨w3.heap.size,1,none⟩ (.slice A7 (wb.tabs.length+1) c7)).setCell ⟨w.heap.size+2,0,none⟩ (.slice A2 wb.doms.length c2)).setCell ⟨w.heap.size+2,1,none⟩ (.slice A7 (wb.tabs.length+1) c7)).heap[k]? = w7.heap[k]?:=fun k hk1 hk2=>by
  rw [RowKit.Below.heap_setCell _ _ _ _ hk2,RowKit.Below.heap_setCell _ _ _ _ hk2,RowKit.Below.heap_setCell _ _ _ _ hk1]
 refine ⟨_,_,rfl,jhl (ja1 O17.out (fun k hk=>hset k (by have:=(HL1.out k hk).2;omega) (by have:=(HL1.out k hk).1;omega))) (by omega),?_,?_⟩
 ·have h8:=ja1 (w':=((w7.setCell ⟨w3.heap.size,1,none⟩ (.slice A7 (wb.tabs.length+1) c7)).setCell ⟨w.heap.size+2,0,none⟩ (.slice A2 wb.doms.length c2)).setCell ⟨w.heap.size+2,1,none⟩ (.slice A7 (wb.tabs.length+1) c7)) HO7.out (fun k hk=>by
   rcases HB7.out k hk with h | h
   ·exact hset k (by omega) (by omega)
   ·exact hset k (by omega) (by omega))
  have hSk:∀ k,S k→(((w7.setCell ⟨w3.heap.size,1,none⟩ (.slice A7 (wb.tabs.length+1) c7)).setCell ⟨w.heap.size+2,0,none⟩ (.slice A2 wb.doms.length c2)).setCell ⟨w.heap.size+2,1,none⟩ (.slice A7 (wb.tabs.length+1) c7)).heap[k]? = w.heap[k]?:=fun k hk=>by
   have:=HS.out k hk
   rw [hset k (by omega) (by omega),hb07.block k this]
  have hS3:∀ k,S k→w3.heap[k]? = w.heap[k]?:=fun k hk=>by
   have:=HS.out k hk
   rw [hb3.block k (by omega),hb02.block k this]
  have hzz:jvs (((w7.setCell ⟨w3.heap.size,1,none⟩ (.slice A7 (wb.tabs.length+1) c7)).setCell ⟨w.heap.size+2,0,none⟩ (.slice A2 wb.doms.length c2)).setCell ⟨w.heap.size+2,1,none⟩ (.slice A7 (wb.tabs.length+1) c7)) S (z.take p ++ (⟨nm,pol,comp,ins,rules⟩,(nm,pol,comp,(ia,ins.length,ic),(ra,rules.length,rc))) :: z.drop p):=by
   have hz0:=Z3.out.keep (w':=((w7.setCell ⟨w3.heap.size,1,none⟩ (.slice A7 (wb.tabs.length+1) c7)).setCell ⟨w.heap.size+2,0,none⟩ (.slice A2 wb.doms.length c2)).setCell ⟨w.heap.size+2,1,none⟩ (.slice A7 (wb.tabs.length+1) c7)) (fun k hk=>(hSk k hk).trans (hS3 k hk).symm)
   intro q hq
   rcases List.mem_append.1 hq with hq | hq
   ·exact hz0 q (List.mem_of_mem_take hq)
   ·rcases List.mem_cons.1 hq with rfl | hq
    ·exact Enc.tab.keep HTQ.out fun pp hp=>World.cell?_of_block (hSk _ hp)
    ·exact hz0 q (List.mem_of_mem_drop hq)
  have he:=yc1 hzz
  have e1:(z.take p ++ ((⟨nm,pol,comp,ins,rules⟩:TabD),((nm,pol,comp,(ia,ins.length,ic),(ra,rules.length,rc)):RawT)) :: z.drop p).map (·.1)=insF (·.name) wb.tabs ⟨nm,pol,comp,ins,rules⟩:=by
   rw [HIF.out,List.map_append,List.map_cons,List.map_take,List.map_drop,Z1.out]
  rw [e1] at he
  refine ⟨_,?_,he⟩
  show World.ownsRow _ _ _ _ _ (insF (·.name) wb.tabs _).length _
  rw [jip]
  exact jhl h8 (by omega)
 ·intro k hk e
  rcases HB7.out k e with h | h
  ·exact h.2.2 hk
  ·have:=(HL1.out k hk).2;omega
open Go.RowKit
def bs (l:Bs):ByteArray:=⟨l.toArray⟩
theorem jdb (l:Bs):(bs l).data.toList=l:=by simp [bs]
theorem jeq (l:Bs):(bs l).size=l.length:=by show (bs l).data.size=_;simp [bs]
theorem ygm (s:ByteArray):bs s.data.toList=s:=by cases s;simp [bs]
def PA (w:World) (g:Nat) (p:PS):Prop :=
 g<w.heap.size∧w.cell? ⟨g,0,none⟩=some (.string (bs p.rest))∧w.cell? ⟨g,1,none⟩=some (.bool p.bad)∧w.frozen? ⟨g,0,none⟩=false∧w.frozen? ⟨g,1,none⟩=false
section
variable {w w' w2:World} {g:Nat} {p:PS}
theorem PA.keep (h:PA w g p) (hb:w'.heap[g]? = w.heap[g]?) (hs:w.heap.size≤w'.heap.size):PA w' g p:=by
 obtain ⟨h0,h1,h2,h3,h4⟩:=h
 exact ⟨Nat.lt_of_lt_of_le h0 hs,(World.cell?_of_block hb).trans h1,(World.cell?_of_block hb).trans h2,(World.frozen?_of_block hb).trans h3,(World.frozen?_of_block hb).trans h4⟩
theorem PA.next (h:PA w g p) (hb:Below w.heap.size w w'):PA w' g p:=h.keep (hb.block g h.1) hb.size
theorem PA.set0 (h:PA w g p) (l:Bs):PA (w.setCell ⟨g,0,none⟩ (.string (bs l))) g ⟨l,p.bad⟩:=by
 obtain ⟨h0,h1,h2,h3,h4⟩:=h
 exact ⟨by simpa [World.setCell] using h0,World.cell?_setCell_same w _ _ h1,(World.cell?_setCell_other w _ _ _ (by simp)).trans h2,by simpa using h3,by simpa using h4⟩
theorem PA.set1 (h:PA w g p) (b:Bool):PA (w.setCell ⟨g,1,none⟩ (.bool b)) g ⟨p.rest,b⟩:=by
 obtain ⟨h0,h1,h2,h3,h4⟩:=h
 exact ⟨by simpa [World.setCell] using h0,(World.cell?_setCell_other w _ _ _ (by simp)).trans h1,World.cell?_setCell_same w _ _ h2,by simpa using h3,by simpa using h4⟩
theorem PA.new (w:World) (l:Bs) (ty:Nat):PA (w.alloc (.cells #[.string (bs l),.bool false] ty)) w.heap.size ⟨l,false⟩ :=
 ⟨by simp,(World.cell?_alloc_new ..).trans rfl,(World.cell?_alloc_new ..).trans rfl,by simp,by simp⟩
theorem jcv (w:World) (g o:Nat) (v:Value):w.grownBy (w.setCell ⟨g,o,none⟩ v) (some g) :=
 ⟨rfl,rfl,rfl,by simp [World.setCell],fun k _ hk=>RowKit.Below.heap_setCell _ _ _ _ (by intro h;apply hk;rw [h])⟩
theorem jak (h:Below w.heap.size w w'):w.grownBy w' (some g):=jbb h
theorem Sl.grown {α:Type} {E:Enc α} {S:Nat→Prop} {l:List α} {v:Value} (h:Sl E w S l v) (hg:w.grownBy w' (some g)) (hS:∀ k,S k→k<w.heap.size∧k≠g):Sl E w' S l v :=
 h.keep fun q hq=>World.cell?_of_block (hg.block _ (hS _ hq).1 (by intro e;injection e with e;exact (hS _ hq).2 e))
theorem OwnG.grownP {α:Type} {E:Enc α} {base lo e:Nat} {v:Value} {l:List α} (h:OwnG E w base lo e v l) (hg:w.grownBy w' (some g)) (h1:g<lo) (h2:g<base):OwnG E w' base lo e v l:=by
 have hlt:=h.lt
 obtain ⟨us,k1,k2⟩:=h
 refine ⟨us,ja1 k1 (fun b hb=>hg.block b (hlt b hb).2 (by intro e;injection e with e;have:=(hlt b hb).1;omega)),?_⟩
 refine (k2.keep (w':=w') fun q hq=>World.cell?_of_block (hg.block _ hq.2.1 (by intro e;injection e with e;have:=hq.1;omega))).more fun k hk=>⟨hk.1,Nat.lt_of_lt_of_le hk.2.1 hg.size,hk.2.2⟩
end
theorem jq8 (p:PS):(jcg p).2.rest.length≤p.rest.length:=Nat.le_trans (List.dropWhile_sublist _).length_le (jld _)
theorem jec (s:Bs) (p:PS):(jat s p).2.rest.length+(if (jat s p).1 then s.length else 0)≤p.rest.length:=by
 have:=jld p.rest
 unfold jat
 by_cases h:s.isPrefixOf (jau p.rest)=true
 ·simp only [h,if_true,List.length_drop]
  have:=(List.isPrefixOf_iff_prefix.1 h).length_le
  omega
 ·simp only [Bool.not_eq_true] at h
  simp only [h,Bool.false_eq_true,if_false]
  omega
theorem jfp (s:Bs) (p:PS):(jb4 s p).rest.length+(if (jb4 s p).bad then 0 else s.length)≤p.rest.length:=by
 have:=jec s p
 unfold jb4
 simp only
 cases h:(jat s p).1 <;> rw [h] at this <;> cases p.bad <;> simp at this ⊢ <;> omega
theorem jg9 (p:PS):(jaw p).2.rest.length≤p.rest.length:=by
 have:=jld p.rest
 unfold jaw
 split <;> simp only [List.length_drop] <;> omega
theorem jmu (s:Bs) (p:PS):(jcx s p).2.rest.length≤p.rest.length:=jq8 p
theorem jrz (p:PS):(jdl p).2.rest.length≤p.rest.length:=by
 have a:=jg9 p
 have b:=jec [46,46] (jaw p).2
 have c:=jg9 (jat [46,46] (jaw p).2).2
 unfold jdl
 split <;> simp only <;> omega
theorem yf1 {α:Type} {item:PS → α × PS} (hi:∀ p,(item p).2.rest.length≤p.rest.length) {s:Bs} (hs:1≤s.length):∀ (n:Nat) (p:PS),(sepP item s n p).2.rest.length+(sepP item s n p).1.length≤p.rest.length
 | 0,p=>by simp [sepP]
 | n+1,p=>by
  have a:=jec s p
  have b:=hi (jat s p).2
  have c:=yf1 hi hs n (item (jat s p).2).2
  unfold sepP
  split
  ·rename_i h
   rw [if_pos h] at a
   simp only [List.length_cons]
   omega
  ·simp only [List.length_nil];omega
theorem juq {α:Type} {item:PS → α × PS} (hi:∀ p,(item p).2.rest.length≤p.rest.length) {s:Bs} (hs:1≤s.length) (p:PS):(jvy item s p).2.rest.length≤p.rest.length:=by
 have b:=hi p
 have c:=yf1 hi hs ((item p).2.rest.length+1) (item p).2
 unfold jvy
 simp only
 omega
theorem yef (p:PS):(jh8 p).2.rest.length≤p.rest.length:=juq jrz (by simp) p
theorem jt0 (p:PS):(jfr p).2.rest.length≤p.rest.length:=by
 have a:=jec [42] p
 have b:=jmu [110,111,116] (jat [42] p).2
 have c:=yef (jcx [110,111,116] (jat [42] p).2).2
 unfold jfr
 split <;> simp only <;> omega
theorem jwp (p:PS):(jhd p).2.rest.length≤p.rest.length:=juq jt0 (by simp) p
theorem jle (p:PS):(strP p).2.rest.length≤p.rest.length:=jq8 p
theorem jug (p:PS):(jio p).2.rest.length≤p.rest.length:=juq jle (by simp) p
theorem jva (p:PS):(jjv p).2.rest.length+(if (jjv p).2.bad then 0 else 1)≤p.rest.length:=by
 have a:=jwp p
 have b:=jfp [61,62] (jhd p).2
 have c:=jg9 (jb4 [61,62] (jhd p).2)
 have d:=jfp [59] (jaw (jb4 [61,62] (jhd p).2)).2
 unfold jjv
 simp only [List.length_cons,List.length_nil,Nat.zero_add] at d ⊢
 omega
theorem yfv (p:PS):(polP p).2.rest.length≤p.rest.length:=by
 have:=jq8 p
 unfold polP
 split <;> exact this
theorem jxb (p:PS) (hb:p.bad=false) (ht:(jat [125] p).1=false):jmr (jjv (jat [125] p).2).2<jmr p:=by
 have a:=jec [125] p
 have b:=jva (jat [125] p).2
 rw [ht] at a
 unfold jmr
 rw [hb]
 simp at a
 cases hh:(jjv (jat [125] p).2).2.bad <;> rw [hh] at b <;> simp at b ⊢ <;> omega
end Go.Proofs.YthmlndmlnlfhnaaGreatDoor
namespace Go.Proofs
open Go.Shelf
def Tryz.trimLeft_ren:Go.Shelf.Ren:=⟨fun | 161=>176 | 231=>197 | 227=>198 | 233=>199 | 235=>200 | 228=>220 | 197=>221 | 151=>222 | 260=>236 | 152=>237 | 137=>256 | 119=>257 | 224=>258 | 225=>259 | 217=>269 | 266=>271 | n=>n,fun | 9=>9 | 4=>4 | 3=>3 | 5=>5 | 117=>249 | 116=>248 | 0=>0 | 124=>252 | 105=>266 | 21=>21 | 119=>306 | 46=>208 | 139=>309 | 138=>308 | n=>n,fun | 3=>5 | 4=>6 | n=>n⟩
theorem Tryz.trimLeft:Go.Proofs.Lays.n161 Tryz.prog Tryz.trimLeft_ren:={
 mixed:=by kernel_rfl
 f119:=Tryz.func257.trans (congrArg some (by kernel_rfl))
 f137:=Tryz.func256.trans (congrArg some (by kernel_rfl))
 f151:=Tryz.func222.trans (congrArg some (by kernel_rfl))
 f152:=Tryz.func237.trans (congrArg some (by kernel_rfl))
 f161:=Tryz.func176.trans (congrArg some (by kernel_rfl))
 f197:=Tryz.func221.trans (congrArg some (by kernel_rfl))
 f217:=Tryz.func269.trans (congrArg some (by kernel_rfl))
 f224:=Tryz.func258.trans (congrArg some (by kernel_rfl))
 f225:=Tryz.func259.trans (congrArg some (by kernel_rfl))
 f227:=Tryz.func198.trans (congrArg some (by kernel_rfl))
 f228:=Tryz.func220.trans (congrArg some (by kernel_rfl))
 f231:=Tryz.func197.trans (congrArg some (by kernel_rfl))
 f233:=Tryz.func199.trans (congrArg some (by kernel_rfl))
 f235:=Tryz.func200.trans (congrArg some (by kernel_rfl))
 f260:=Tryz.func236.trans (congrArg some (by kernel_rfl))
 f266:=Tryz.func271.trans (congrArg some (by kernel_rfl))
 t0:=Tryz.underlying0
 a0:=Tryz.isAgg0
 z0:=Tryz.sizeOf0
 v0:=Tryz.zeroValue0
 t3:=Tryz.underlying3
 a3:=Tryz.isAgg3
 z3:=Tryz.sizeOf3
 v3:=Tryz.zeroValue3
 t4:=Tryz.underlying4
 a4:=Tryz.isAgg4
 z4:=Tryz.sizeOf4
 v4:=Tryz.zeroValue4
 t5:=Tryz.underlying5
 a5:=Tryz.isAgg5
 z5:=Tryz.sizeOf5
 v5:=Tryz.zeroValue5
 t9:=Tryz.underlying9
 a9:=Tryz.isAgg9
 z9:=Tryz.sizeOf9
 v9:=Tryz.zeroValue9
 t21:=Tryz.underlying21
 a21:=Tryz.isAgg21
 z21:=Tryz.sizeOf21
 v21:=Tryz.zeroValue21
 t46:=Tryz.underlying208
 a46:=Tryz.isAgg208
 z46:=Tryz.sizeOf208
 v46:=Tryz.zeroValue208
 t105:=Tryz.underlying266
 a105:=Tryz.isAgg266
 z105:=Tryz.sizeOf266
 v105:=Tryz.zeroValue266
 t116:=Tryz.underlying248
 a116:=Tryz.isAgg248
 z116:=Tryz.sizeOf248
 t117:=Tryz.underlying249
 a117:=Tryz.isAgg249
 z117:=Tryz.sizeOf249
 v117:=Tryz.zeroValue249
 t119:=Tryz.underlying306
 a119:=Tryz.isAgg306
 z119:=Tryz.sizeOf306
 t124:=Tryz.underlying252
 a124:=Tryz.isAgg252
 z124:=Tryz.sizeOf252
 v124:=Tryz.zeroValue252
 t138:=Tryz.underlying308
 a138:=Tryz.isAgg308
 z138:=Tryz.sizeOf308
 v138:=Tryz.zeroValue308
 t139:=Tryz.underlying309
 a139:=Tryz.isAgg309
 z139:=Tryz.sizeOf309
 v139:=Tryz.zeroValue309
 g3:=by kernel_rfl
 g4:=by kernel_rfl }
def Tryz.hasPrefix_ren:Go.Shelf.Ren:=⟨fun | 99=>177 | 206=>201 | n=>n,fun | 9=>9 | 4=>4 | 3=>3 | n=>n,fun | n=>n⟩
theorem Tryz.hasPrefix:Go.Proofs.Lays.n99 Tryz.prog Tryz.hasPrefix_ren:={
 mixed:=by kernel_rfl
 f99:=Tryz.func177.trans (congrArg some (by kernel_rfl))
 f206:=Tryz.func201.trans (congrArg some (by kernel_rfl))
 t3:=Tryz.underlying3
 a3:=Tryz.isAgg3
 z3:=Tryz.sizeOf3
 v3:=Tryz.zeroValue3
 t4:=Tryz.underlying4
 a4:=Tryz.isAgg4
 z4:=Tryz.sizeOf4
 v4:=Tryz.zeroValue4
 t9:=Tryz.underlying9
 a9:=Tryz.isAgg9
 z9:=Tryz.sizeOf9
 v9:=Tryz.zeroValue9 }
def Tryz.atoi_ren:Go.Shelf.Ren:=⟨fun | 172=>178 | 244=>202 | 245=>203 | 247=>223 | 279=>224 | 280=>225 | 281=>226 | 282=>227 | 287=>238 | 316=>239 | 171=>152 | 205=>240 | 321=>260 | 322=>261 | 243=>183 | 246=>207 | 283=>229 | 284=>230 | 285=>231 | 286=>232 | 129=>243 | 317=>242 | 318=>244 | 319=>245 | 320=>246 | 337=>262 | 338=>263 | n=>n,fun | 9=>9 | 3=>3 | 75=>143 | 76=>144 | 4=>4 | 5=>5 | 167=>269 | 37=>138 | 0=>0 | 85=>270 | 2=>2 | 168=>272 | 53=>277 | 175=>286 | 46=>208 | 210=>290 | 127=>189 | 145=>315 | 143=>313 | 21=>21 | 171=>276 | 173=>280 | 212=>295 | 51=>296 | 20=>20 | 213=>297 | 232=>322 | 233=>323 | 80=>146 | n=>n,fun | 15=>2 | 16=>3 | 17=>4 | 18=>7 | 19=>8 | n=>n⟩
theorem Tryz.atoi:Go.Proofs.LaysC.n172 Tryz.prog Tryz.atoi_ren:={
 mixed:=by kernel_rfl
 f129:=Tryz.func243.trans (congrArg some (by kernel_rfl))
 f171:=Tryz.func152.trans (congrArg some (by kernel_rfl))
 f172:=Tryz.func178.trans (congrArg some (by kernel_rfl))
 f205:=Tryz.func240.trans (congrArg some (by kernel_rfl))
 f243:=Tryz.func183.trans (congrArg some (by kernel_rfl))
 f244:=Tryz.func202.trans (congrArg some (by kernel_rfl))
 f245:=Tryz.func203.trans (congrArg some (by kernel_rfl))
 f246:=Tryz.func207.trans (congrArg some (by kernel_rfl))
 f247:=Tryz.func223.trans (congrArg some (by kernel_rfl))
 f279:=Tryz.func224.trans (congrArg some (by kernel_rfl))
 f280:=Tryz.func225.trans (congrArg some (by kernel_rfl))
 f281:=Tryz.func226.trans (congrArg some (by kernel_rfl))
 f282:=Tryz.func227.trans (congrArg some (by kernel_rfl))
 f283:=Tryz.func229.trans (congrArg some (by kernel_rfl))
 f284:=Tryz.func230.trans (congrArg some (by kernel_rfl))
 f285:=Tryz.func231.trans (congrArg some (by kernel_rfl))
 f286:=Tryz.func232.trans (congrArg some (by kernel_rfl))
 f287:=Tryz.func238.trans (congrArg some (by kernel_rfl))
 f316:=Tryz.func239.trans (congrArg some (by kernel_rfl))
 f317:=Tryz.func242.trans (congrArg some (by kernel_rfl))
 f318:=Tryz.func244.trans (congrArg some (by kernel_rfl))
 f319:=Tryz.func245.trans (congrArg some (by kernel_rfl))
 f320:=Tryz.func246.trans (congrArg some (by kernel_rfl))
 f321:=Tryz.func260.trans (congrArg some (by kernel_rfl))
 f322:=Tryz.func261.trans (congrArg some (by kernel_rfl))
 f337:=Tryz.func262.trans (congrArg some (by kernel_rfl))
 f338:=Tryz.func263.trans (congrArg some (by kernel_rfl))
 t0:=Tryz.underlying0
 a0:=Tryz.isAgg0
 z0:=Tryz.sizeOf0
 v0:=Tryz.zeroValue0
 t2:=Tryz.underlying2
 a2:=Tryz.isAgg2
 z2:=Tryz.sizeOf2
 v2:=Tryz.zeroValue2
 t3:=Tryz.underlying3
 a3:=Tryz.isAgg3
 z3:=Tryz.sizeOf3
 v3:=Tryz.zeroValue3
 t4:=Tryz.underlying4
 a4:=Tryz.isAgg4
 z4:=Tryz.sizeOf4
 v4:=Tryz.zeroValue4
 t5:=Tryz.underlying5
 a5:=Tryz.isAgg5
 z5:=Tryz.sizeOf5
 v5:=Tryz.zeroValue5
 t9:=Tryz.underlying9
 a9:=Tryz.isAgg9
 z9:=Tryz.sizeOf9
 v9:=Tryz.zeroValue9
 t20:=Tryz.underlying20
 a20:=Tryz.isAgg20
 z20:=Tryz.sizeOf20
 v20:=Tryz.zeroValue20
 t21:=Tryz.underlying21
 a21:=Tryz.isAgg21
 z21:=Tryz.sizeOf21
 v21:=Tryz.zeroValue21
 t37:=Tryz.underlying138
 a37:=Tryz.isAgg138
 z37:=Tryz.sizeOf138
 v37:=Tryz.zeroValue138
 t46:=Tryz.underlying208
 a46:=Tryz.isAgg208
 z46:=Tryz.sizeOf208
 v46:=Tryz.zeroValue208
 t51:=Tryz.underlying296
 a51:=Tryz.isAgg296
 z51:=Tryz.sizeOf296
 v51:=Tryz.zeroValue296
 t53:=Tryz.underlying277
 a53:=Tryz.isAgg277
 z53:=Tryz.sizeOf277
 v53:=Tryz.zeroValue277
 t75:=Tryz.underlying143
 a75:=Tryz.isAgg143
 z75:=Tryz.sizeOf143
 v75:=Tryz.zeroValue143
 t76:=Tryz.underlying144
 a76:=Tryz.isAgg144
 z76:=Tryz.sizeOf144
 v76:=Tryz.zeroValue144
 t85:=Tryz.underlying270
 a85:=Tryz.isAgg270
 z85:=Tryz.sizeOf270
 v85:=Tryz.zeroValue270
 t127:=Tryz.underlying189
 a127:=Tryz.isAgg189
 z127:=Tryz.sizeOf189
 v127:=Tryz.zeroValue189
 t143:=Tryz.underlying313
 a143:=Tryz.isAgg313
 z143:=Tryz.sizeOf313
 v143:=Tryz.zeroValue313
 t145:=Tryz.underlying315
 a145:=Tryz.isAgg315
 z145:=Tryz.sizeOf315
 v145:=Tryz.zeroValue315
 t167:=Tryz.underlying269
 a167:=Tryz.isAgg269
 z167:=Tryz.sizeOf269
 v167:=Tryz.zeroValue269
 t168:=Tryz.underlying272
 a168:=Tryz.isAgg272
 z168:=Tryz.sizeOf272
 v168:=Tryz.zeroValue272
 t171:=Tryz.underlying276
 a171:=Tryz.isAgg276
 z171:=Tryz.sizeOf276
 v171:=Tryz.zeroValue276
 t173:=Tryz.underlying280
 a173:=Tryz.isAgg280
 z173:=Tryz.sizeOf280
 v173:=Tryz.zeroValue280
 t175:=Tryz.underlying286
 a175:=Tryz.isAgg286
 z175:=Tryz.sizeOf286
 v175:=Tryz.zeroValue286
 t210:=Tryz.underlying290
 a210:=Tryz.isAgg290
 z210:=Tryz.sizeOf290
 v210:=Tryz.zeroValue290
 t212:=Tryz.underlying295
 a212:=Tryz.isAgg295
 z212:=Tryz.sizeOf295
 v212:=Tryz.zeroValue295
 t213:=Tryz.underlying297
 a213:=Tryz.isAgg297
 z213:=Tryz.sizeOf297
 t232:=Tryz.underlying322
 a232:=Tryz.isAgg322
 z232:=Tryz.sizeOf322
 v232:=Tryz.zeroValue322
 t233:=Tryz.underlying323
 a233:=Tryz.isAgg323
 z233:=Tryz.sizeOf323
 v233:=Tryz.zeroValue323
 g15:=by kernel_rfl
 g16:=by kernel_rfl
 g17:=by kernel_rfl
 g18:=by kernel_rfl
 g19:=by kernel_rfl
 t80:=Tryz.underlying146
 a80:=Tryz.isAgg146
 z80:=Tryz.sizeOf146
 v80:=Tryz.zeroValue146
 i0:=by kernel_rfl
 i2:=by kernel_rfl
 i3:=by kernel_rfl
 i4:=by kernel_rfl
 i5:=by kernel_rfl
 i9:=by kernel_rfl
 i20:=by kernel_rfl
 i21:=by kernel_rfl
 i37:=by kernel_rfl
 i46:=by kernel_rfl
 i51:=by kernel_rfl
 i53:=by kernel_rfl
 i75:=by kernel_rfl
 i76:=by kernel_rfl
 i80:=by kernel_rfl
 i85:=by kernel_rfl
 i127:=by kernel_rfl
 i143:=by kernel_rfl
 i145:=by kernel_rfl
 i167:=by kernel_rfl
 i168:=by kernel_rfl
 i171:=by kernel_rfl
 i173:=by kernel_rfl
 i175:=by kernel_rfl
 i210:=by kernel_rfl
 i212:=by kernel_rfl
 i232:=by kernel_rfl
 i233:=by kernel_rfl
 m15:=by kernel_rfl
 m16:=by kernel_rfl
 m17:=by kernel_rfl
 m18:=by kernel_rfl
 m19:=by kernel_rfl
 c0:=by kernel_rfl
 c2:=by kernel_rfl
 c3:=by kernel_rfl
 c4:=by kernel_rfl
 c5:=by kernel_rfl
 c9:=by kernel_rfl
 c20:=by kernel_rfl
 c21:=by kernel_rfl
 c37:=by kernel_rfl
 c46:=by kernel_rfl
 c51:=by kernel_rfl
 c53:=by kernel_rfl
 c75:=by kernel_rfl
 c76:=by kernel_rfl
 c80:=by kernel_rfl
 c85:=by kernel_rfl
 c127:=by kernel_rfl
 c143:=by kernel_rfl
 c145:=by kernel_rfl
 c167:=by kernel_rfl
 c168:=by kernel_rfl
 c171:=by kernel_rfl
 c173:=by kernel_rfl
 c175:=by kernel_rfl
 c210:=by kernel_rfl
 c212:=by kernel_rfl
 c213:=by kernel_rfl
 c232:=by kernel_rfl
 c233:=by kernel_rfl }
def Tryz.itoa_ren:Go.Shelf.Ren:=⟨fun | 171=>152 | 243=>183 | 246=>207 | 283=>229 | 284=>230 | 285=>231 | 286=>232 | 129=>243 | 317=>242 | 318=>244 | 319=>245 | 320=>246 | 337=>262 | 338=>263 | n=>n,fun | 3=>3 | 9=>9 | 2=>2 | 4=>4 | 171=>276 | 0=>0 | 53=>277 | 37=>138 | 5=>5 | 173=>280 | 212=>295 | 51=>296 | 20=>20 | 213=>297 | 46=>208 | 232=>322 | 233=>323 | n=>n,fun | 17=>4 | 18=>7 | 19=>8 | n=>n⟩
theorem Tryz.itoa:Go.Proofs.LaysM.n171 Tryz.prog Tryz.itoa_ren:={
 mixed:=by kernel_rfl
 f129:=Tryz.func243.trans (congrArg some (by kernel_rfl))
 f171:=Tryz.func152.trans (congrArg some (by kernel_rfl))
 f243:=Tryz.func183.trans (congrArg some (by kernel_rfl))
 f246:=Tryz.func207.trans (congrArg some (by kernel_rfl))
 f283:=Tryz.func229.trans (congrArg some (by kernel_rfl))
 f284:=Tryz.func230.trans (congrArg some (by kernel_rfl))
 f285:=Tryz.func231.trans (congrArg some (by kernel_rfl))
 f286:=Tryz.func232.trans (congrArg some (by kernel_rfl))
 f317:=Tryz.func242.trans (congrArg some (by kernel_rfl))
 f318:=Tryz.func244.trans (congrArg some (by kernel_rfl))
 f319:=Tryz.func245.trans (congrArg some (by kernel_rfl))
 f320:=Tryz.func246.trans (congrArg some (by kernel_rfl))
 f337:=Tryz.func262.trans (congrArg some (by kernel_rfl))
 f338:=Tryz.func263.trans (congrArg some (by kernel_rfl))
 t0:=Tryz.underlying0
 a0:=Tryz.isAgg0
 z0:=Tryz.sizeOf0
 v0:=Tryz.zeroValue0
 t2:=Tryz.underlying2
 a2:=Tryz.isAgg2
 z2:=Tryz.sizeOf2
 v2:=Tryz.zeroValue2
 t3:=Tryz.underlying3
 a3:=Tryz.isAgg3
 z3:=Tryz.sizeOf3
 v3:=Tryz.zeroValue3
 t4:=Tryz.underlying4
 a4:=Tryz.isAgg4
 z4:=Tryz.sizeOf4
 v4:=Tryz.zeroValue4
 t5:=Tryz.underlying5
 a5:=Tryz.isAgg5
 z5:=Tryz.sizeOf5
 v5:=Tryz.zeroValue5
 t9:=Tryz.underlying9
 a9:=Tryz.isAgg9
 z9:=Tryz.sizeOf9
 v9:=Tryz.zeroValue9
 t20:=Tryz.underlying20
 a20:=Tryz.isAgg20
 z20:=Tryz.sizeOf20
 v20:=Tryz.zeroValue20
 t37:=Tryz.underlying138
 a37:=Tryz.isAgg138
 z37:=Tryz.sizeOf138
 v37:=Tryz.zeroValue138
 t46:=Tryz.underlying208
 a46:=Tryz.isAgg208
 z46:=Tryz.sizeOf208
 v46:=Tryz.zeroValue208
 t51:=Tryz.underlying296
 a51:=Tryz.isAgg296
 z51:=Tryz.sizeOf296
 v51:=Tryz.zeroValue296
 t53:=Tryz.underlying277
 a53:=Tryz.isAgg277
 z53:=Tryz.sizeOf277
 v53:=Tryz.zeroValue277
 t171:=Tryz.underlying276
 a171:=Tryz.isAgg276
 z171:=Tryz.sizeOf276
 v171:=Tryz.zeroValue276
 t173:=Tryz.underlying280
 a173:=Tryz.isAgg280
 z173:=Tryz.sizeOf280
 v173:=Tryz.zeroValue280
 t212:=Tryz.underlying295
 a212:=Tryz.isAgg295
 z212:=Tryz.sizeOf295
 v212:=Tryz.zeroValue295
 t213:=Tryz.underlying297
 a213:=Tryz.isAgg297
 z213:=Tryz.sizeOf297
 t232:=Tryz.underlying322
 a232:=Tryz.isAgg322
 z232:=Tryz.sizeOf322
 v232:=Tryz.zeroValue322
 t233:=Tryz.underlying323
 a233:=Tryz.isAgg323
 z233:=Tryz.sizeOf323
 v233:=Tryz.zeroValue323
 g17:=by kernel_rfl
 g18:=by kernel_rfl
 g19:=by kernel_rfl
 i0:=by kernel_rfl
 i2:=by kernel_rfl
 i3:=by kernel_rfl
 i4:=by kernel_rfl
 i5:=by kernel_rfl
 i9:=by kernel_rfl
 i20:=by kernel_rfl
 i37:=by kernel_rfl
 i46:=by kernel_rfl
 i51:=by kernel_rfl
 i53:=by kernel_rfl
 i171:=by kernel_rfl
 i173:=by kernel_rfl
 i212:=by kernel_rfl
 i232:=by kernel_rfl
 i233:=by kernel_rfl
 m17:=by kernel_rfl
 m18:=by kernel_rfl
 m19:=by kernel_rfl }
def Tryz.join_ren:Go.Shelf.Ren:=⟨fun | 156=>49 | 165=>78 | 166=>79 | 169=>80 | 240=>121 | 241=>122 | 276=>160 | 277=>161 | n=>n,fun | 31=>39 | 9=>9 | 3=>3 | 4=>4 | 0=>0 | 20=>20 | 72=>140 | 76=>144 | 70=>137 | 37=>138 | 75=>143 | 127=>189 | 164=>221 | 5=>5 | 80=>146 | n=>n,fun | n=>n⟩
theorem Tryz.join:Go.Proofs.Lays.n156 Tryz.prog Tryz.join_ren:={
 mixed:=by kernel_rfl
 f156:=Tryz.func49.trans (congrArg some (by kernel_rfl))
 f165:=Tryz.func78.trans (congrArg some (by kernel_rfl))
 f166:=Tryz.func79.trans (congrArg some (by kernel_rfl))
 f169:=Tryz.func80.trans (congrArg some (by kernel_rfl))
 f240:=Tryz.func121.trans (congrArg some (by kernel_rfl))
 f241:=Tryz.func122.trans (congrArg some (by kernel_rfl))
 f276:=Tryz.func160.trans (congrArg some (by kernel_rfl))
 f277:=Tryz.func161.trans (congrArg some (by kernel_rfl))
 t0:=Tryz.underlying0
 a0:=Tryz.isAgg0
 z0:=Tryz.sizeOf0
 v0:=Tryz.zeroValue0
 t3:=Tryz.underlying3
 a3:=Tryz.isAgg3
 z3:=Tryz.sizeOf3
 v3:=Tryz.zeroValue3
 t4:=Tryz.underlying4
 a4:=Tryz.isAgg4
 z4:=Tryz.sizeOf4
 v4:=Tryz.zeroValue4
 t9:=Tryz.underlying9
 a9:=Tryz.isAgg9
 z9:=Tryz.sizeOf9
 v9:=Tryz.zeroValue9
 t20:=Tryz.underlying20
 a20:=Tryz.isAgg20
 z20:=Tryz.sizeOf20
 v20:=Tryz.zeroValue20
 t31:=Tryz.underlying39
 a31:=Tryz.isAgg39
 z31:=Tryz.sizeOf39
 v31:=Tryz.zeroValue39
 t37:=Tryz.underlying138
 a37:=Tryz.isAgg138
 z37:=Tryz.sizeOf138
 v37:=Tryz.zeroValue138
 t70:=Tryz.underlying137
 a70:=Tryz.isAgg137
 z70:=Tryz.sizeOf137
 v70:=Tryz.zeroValue137
 t72:=Tryz.underlying140
 a72:=Tryz.isAgg140
 z72:=Tryz.sizeOf140
 v72:=Tryz.zeroValue140
 t75:=Tryz.underlying143
 a75:=Tryz.isAgg143
 z75:=Tryz.sizeOf143
 v75:=Tryz.zeroValue143
 t76:=Tryz.underlying144
 a76:=Tryz.isAgg144
 z76:=Tryz.sizeOf144
 v76:=Tryz.zeroValue144
 t127:=Tryz.underlying189
 a127:=Tryz.isAgg189
 z127:=Tryz.sizeOf189
 v127:=Tryz.zeroValue189
 t164:=Tryz.underlying221
 a164:=Tryz.isAgg221
 z164:=Tryz.sizeOf221
 v164:=Tryz.zeroValue221 }
theorem Tryz.joinX:Builder.Extra Tryz.prog Tryz.join_ren:={
 sizeBuilder:=by kernel_rfl
 liesBuilder:=by kernel_rfl
 t5:=by kernel_rfl
 a5:=fun _=>by kernel_rfl
 z5:=fun _=>by kernel_rfl
 v5:=fun _=>by kernel_rfl
 infoByte:=by kernel_rfl
 cellsByte:=by kernel_rfl
 sizeByte:=by kernel_rfl
 neB5:=by decide }
end Go.Proofs
namespace Go.Proofs.YthmlndmlnlfhnaaGreatDoor
open Go.RowKit Go.Shelf
theorem ybk (l:Bs) (w:World) :
  Calls Tryz.prog 176 #[.string (bs l),.string ⟨#[32,10]⟩] w fun e w'=>e = .returned (.string (bs (jau l)))∧Below w.heap.size w w':=by
 have h:=Any.strings_TrimLeft_laid Tryz.trimLeft (by kernel_rfl) (bs l) ⟨#[32,10]⟩ w (by decide) (ascii_of_all (by decide))
 rw [jdb] at h
 exact h
theorem jmp (l m:Bs) (w:World) :
  Calls Tryz.prog 177 #[.string (bs l),.string (bs m)] w fun e w'=>e = .returned (.bool (m.isPrefixOf l))∧w'=w:=by
 have h:=Any.strings_HasPrefix Tryz.hasPrefix (bs l) (bs m) w
 rw [jdb,jdb] at h
 exact h
theorem yb4 (p:PS) (g:Nat) (w:World) (h:PA w g p) :
  Calls Tryz.prog 137 #[.pointer (some ⟨g,0,none⟩)] w fun e w'=>e = .returned (.tuple #[])∧PA w' g ⟨jau p.rest,p.bad⟩∧w.grownBy w' (some g):=by
 obtain ⟨r,b⟩:=p
 have H:=Lib.hid h
 obtain ⟨hg,c0,c1,f0,f1⟩:=h
 simp only at c0 c1
 go_enter Tryz.func137,Tryz.ntmps137
 go_wp2_with fail
 refine (ybk r _).mono ?_
 rintro e w1 ⟨rfl,hb1⟩
 obtain ⟨hg1,d0,d1,e0,e1⟩:=H.out.next hb1
 go_wp2
 go_end0
 exact ⟨rfl,(H.out.next hb1).set0 _,World.grownBy.trans' (jak hb1) (jcv ..)⟩
theorem jwk (l:Bs) (a b:Nat):(bs l).extract a b=bs ((l.drop a).take (b-a)):=by
 have:=Lib.extract_data (bs l) a b
 rw [jdb] at this
 rw [← this,ygm]
theorem jv2 (p:PS) (n:Nat) (g:Nat) (w:World) (h:PA w g p) (hn:n≤p.rest.length) (hs:p.rest.length≤2000) :
  Calls Tryz.prog 138 #[.pointer (some ⟨g,0,none⟩),.int .i64 n] w fun e w'=>e = .returned (.string (bs (p.rest.take n)))∧PA w' g ⟨p.rest.drop n,p.bad⟩∧w.grownBy w' (some g):=by
 obtain ⟨r,b⟩:=p
 have H:=Lib.hid h
 obtain ⟨hg,c0,c1,f0,f1⟩:=h
 simp only at c0 c1 hn hs
 have hsz:(bs r).size=r.length:=jeq r
 go_enter Tryz.func138,Tryz.ntmps138
 go_wp2
 go_ret
 have e1:(bs r).extract 0 n=bs (r.take n):=by rw [jwk];simp
 have e2:(bs r).extract n r.length=bs (r.drop n):=by rw [jwk,List.take_of_length_le (by simp)]
 rw [e2]
 refine ⟨?_,H.out.set0 _,jcv ..⟩
 show Ending.returned (.string ((bs r).extract 0 n))=_
 rw [e1]
theorem jpq (sym:Bs) (p:PS) (g:Nat) (w:World) (h:PA w g p) (hs:p.rest.length≤2000) :
  Calls Tryz.prog 144 #[.pointer (some ⟨g,0,none⟩),.string (bs sym)] w fun e w'=>e = .returned (.bool (jat sym p).1)∧PA w' g (jat sym p).2∧w.grownBy w' (some g):=by
 have hlen:=jld p.rest
 obtain ⟨r,b⟩:=p
 have H:=Lib.hid h
 have hsz:(bs sym).size=sym.length:=jeq sym
 simp only at hs hlen
 by_cases hq:sym.isPrefixOf (jau r)=true
 ·have hl:sym.length≤(jau r).length:=(List.isPrefixOf_iff_prefix.1 hq).length_le
  have e:jat sym ⟨r,b⟩=(true,⟨(jau r).drop sym.length,b⟩):=by unfold jat;simp only [hq,if_true]
  rw [e]
  clear e
  have HQ:=Lib.hid hq
  clear hq
  go_enter Tryz.func144,Tryz.ntmps144
  go_wp2_with fail
  refine (yb4 ⟨r,b⟩ g _ H.out).mono ?_
  rintro e w1 ⟨rfl,h1,hb1⟩
  have H1:=Lib.hid h1
  have B1:=Lib.hid hb1
  obtain ⟨hg1,d0,d1,e0,e1⟩:=h1
  simp only at d0 d1
  clear hb1
  go_wp2_with fail
  refine (jmp (jau r) sym _).mono ?_
  rintro e w2 ⟨rfl,rfl⟩
  rw [HQ.out]
  go_wp2_with fail
  refine (jv2 ⟨jau r,b⟩ sym.length g _ H1.out hl (by simp only;omega)).mono ?_
  rintro e w3 ⟨rfl,h3,hb3⟩
  go_wp2
  go_ret
  exact ⟨rfl,h3,World.grownBy.trans' B1.out hb3⟩
 ·have hq':sym.isPrefixOf (jau r)=false:=Bool.eq_false_iff.2 hq
  have e:jat sym ⟨r,b⟩=(false,⟨jau r,b⟩):=by unfold jat;simp only [hq'];rfl
  rw [e]
  clear e hq
  have HQ:=Lib.hid hq'
  clear hq'
  go_enter Tryz.func144,Tryz.ntmps144
  go_wp2_with fail
  refine (yb4 ⟨r,b⟩ g _ H.out).mono ?_
  rintro e w1 ⟨rfl,h1,hb1⟩
  have H1:=Lib.hid h1
  have B1:=Lib.hid hb1
  obtain ⟨hg1,d0,d1,e0,e1⟩:=h1
  simp only at d0 d1
  clear hb1
  go_wp2_with fail
  refine (jmp (jau r) sym _).mono ?_
  rintro e w2 ⟨rfl,rfl⟩
  rw [HQ.out]
  go_wp2
  go_ret
  exact ⟨rfl,H1.out,B1.out⟩
theorem jrw (sym:Bs) (p:PS) (g:Nat) (w:World) (h:PA w g p) (hs:p.rest.length≤2000) :
  Calls Tryz.prog 140 #[.pointer (some ⟨g,0,none⟩),.string (bs sym)] w fun e w'=>e = .returned (.tuple #[])∧PA w' g (jb4 sym p)∧w.grownBy w' (some g):=by
 have H:=Lib.hid h
 have HB:Hid ((jat sym p).2.bad=p.bad):=rfl
 go_enter Tryz.func140,Tryz.ntmps140
 go_wp2_with fail
 refine (jpq sym p g _ H.out hs).mono ?_
 rintro e w1 ⟨rfl,h1,hb1⟩
 have H1:=Lib.hid h1
 have B1:=Lib.hid hb1
 obtain ⟨hg1,d0,d1,e0,e1⟩:=h1
 clear hb1
 have HE:Hid (jb4 sym p = ⟨(jat sym p).2.rest,p.bad || !(jat sym p).1⟩):=rfl
 cases hq:(jat sym p).1
 ·have HQ:=Lib.hid hq
  clear hq
  go_wp2
  first | go_end0 | refine bodyPost_ret (results_none rfl _ _ _) rfl ?_
  refine ⟨rfl,?_,World.grownBy.trans' B1.out (jcv ..)⟩
  have:=H1.out.set1 true
  rw [HE.out,HQ.out]
  simpa using this
 ·have HQ:=Lib.hid hq
  clear hq
  go_wp2
  first | go_end0 | refine bodyPost_ret (results_none rfl _ _ _) rfl ?_
  refine ⟨rfl,?_,B1.out⟩
  rw [HE.out,HQ.out]
  have:=H1.out
  rw [← HB.out]
  simpa using this
theorem ylw (p:PS) (g:Nat) (w:World) (h:PA w g p) :
  Calls Tryz.prog 95 #[.pointer (some ⟨g,0,none⟩)] w fun e w'=>e = .returned (.bool (jni p))∧PA w' g ⟨jau p.rest,p.bad⟩∧w.grownBy w' (some g):=by
 obtain ⟨r,b⟩:=p
 have H:=Lib.hid h
 have HE:Hid (jni ⟨r,b⟩=(!b && (jau r).isEmpty)):=rfl
 go_enter Tryz.func95,Tryz.ntmps95
 go_wp2_with fail
 refine (yb4 ⟨r,b⟩ g _ H.out).mono ?_
 rintro e w1 ⟨rfl,h1,hb1⟩
 have H1:=Lib.hid h1
 have B1:=Lib.hid hb1
 obtain ⟨hg1,d0,d1,e0,e1⟩:=h1
 simp only at d0 d1
 clear hb1
 cases b
 ·by_cases h0:jau r = []
  ·have hb:bs (jau r) = ⟨#[]⟩:=by rw [h0];rfl
   have HX:Hid ((jau r).isEmpty=true):=by show _=true;rw [h0];rfl
   rw [hb] at d0
   go_wp2
   go_ret
   refine ⟨jad ?_,H1.out,B1.out⟩
   rw [HE.out,HX.out];rfl
  ·have hx:((bs (jau r)).toList == [])=false:=by
    rw [ByteArray.toList_eq,jdb]
    cases h:jau r with
    | nil=>exact absurd h h0
    | cons a l=>rfl
   have hx2:(bs (jau r)).toList.isEmpty=false:=by
    rw [ByteArray.toList_eq,jdb]
    cases h:jau r with
    | nil=>exact absurd h h0
    | cons a l=>rfl
   have hx3:¬ (bs (jau r)).toList = []:=by
    rw [ByteArray.toList_eq,jdb];exact h0
   have HX:Hid ((jau r).isEmpty=false):=by
    show _=false
    cases h:jau r with
    | nil=>exact absurd h h0
    | cons a l=>rfl
   go_wp2
   go_ret
   refine ⟨jad ?_,H1.out,B1.out⟩
   rw [HE.out,HX.out];rfl
 ·go_wp2
  go_ret
  exact ⟨jad (by rw [HE.out];rfl),H1.out,B1.out⟩
theorem ygd {f:UInt8→Bool} {l:Bs} {k:Nat} (h1:(l.take k).all f=true) (h2:l.length≤k∨∃ b,l[k]? = some b∧f b=false):l.takeWhile f=l.take k∧l.dropWhile f=l.drop k:=by
 have:=tw (f:=f) (v:=l.take k) (rest:=l.drop k) (List.all_eq_true.1 h1) (by
  rcases h2 with h2 | ⟨b,hb,hf⟩
  ·rw [List.drop_of_length_le h2];intro b hb;simp at hb
  ·intro c hc
   rw [List.head?_drop,hb] at hc
   injection hc with hc
   rw [← hc];exact hf)
 rw [List.take_append_drop] at this
 exact this
theorem yqz (l:Bs) (k:Nat) (h:k<(bs l).size):l[k]? = some ((bs l)[k]):=by
 have h':k<l.length:=by rw [jeq] at h;exact h
 rw [List.getElem?_eq_getElem h']
 rfl
theorem yf9 {f:UInt8→Bool} {l:Bs} {k:Nat} {b:UInt8} (h:(l.take k).all f=true) (hb:l[k]? = some b) (hf:f b=true):(l.take (k+1)).all f=true:=by
 rw [List.take_add_one,hb,List.all_append,h]
 simp [hf]
theorem yfu (p:PS) (g:Nat) (w:World) (h:PA w g p) (hs:p.rest.length≤2000) :
  Calls Tryz.prog 93 #[.pointer (some ⟨g,0,none⟩)] w fun e w'=>e = .returned (.string (bs (jcg p).1))∧PA w' g (jcg p).2∧w.grownBy w' (some g):=by
 have hlen:=jld p.rest
 obtain ⟨r,b⟩:=p
 have H:=Lib.hid h
 simp only at hs hlen
 have HE:Hid (jcg ⟨r,b⟩=((jau r).takeWhile ja5,⟨(jau r).dropWhile ja5,b⟩)):=rfl
 go_enter Tryz.func93,Tryz.ntmps93
 go_wp2_with fail
 refine (yb4 ⟨r,b⟩ g _ H.out).mono ?_
 rintro e w1 ⟨rfl,h1,hb1⟩
 have H1:=Lib.hid h1
 have B1:=Lib.hid hb1
 obtain ⟨hg1,d0,d1,e0,e1⟩:=h1
 simp only at d0 d1
 clear hb1
 obtain ⟨S,hS⟩:∃ S,S=bs (jau r):=⟨_,rfl⟩
 have hsz:S.size=(jau r).length:=by rw [hS];exact jeq _
 rw [← hS] at d0
 have HS:=Lib.hid hS
 clear hS
 have hszi:(S.size:Int)≤2000:=by omega
 go_wp2
 go_loopw [3] (fun i wr=>∃ k:Nat,k≤S.size∧i = .int .i64 k∧Hid (((jau r).take k).all ja5=true)∧wr=w1) (fun i _=>S.size-(intOf i).toNat)
 case atStart=>exact ⟨0,Nat.zero_le _,rfl,rfl,rfl⟩
 case round =>
  obtain ⟨k,hk,rfl,hf,rfl⟩:=hrel
  have hcut:(S.size≤k∨∃ b,(jau r)[k]? = some b∧ja5 b=false)→Hid ((jau r).takeWhile ja5=(jau r).take k∧(jau r).dropWhile ja5=(jau r).drop k):=fun hh=>ygd hf.out (by rcases hh with hh | hh;exact .inl (by omega);exact .inr hh)
  by_cases hlt:k<S.size
  ·have hlt':(k:Int)<S.size:=by omega
   have HX:Hid ((jau r)[k]? = some (S[k])):=by
    have h1:=HS.out
    subst h1
    exact yqz _ _ hlt
   by_cases h1:S[k].toNat<97
   ·have h1':(S[k].toNat:Int)<97:=by omega
    have HL:Hid (ja5 S[k]=false):=by simp [ja5,Hid];omega
    have HC:=hcut (.inr ⟨_,HX.out,HL.out⟩)
    clear hcut
    go_wp2_with fail
    refine (jv2 ⟨jau r,b⟩ k g _ H1.out (by simp only;omega) (by simp only;omega)).mono ?_
    rintro e w3 ⟨rfl,h3,hb3⟩
    go_wp2
    go_ret
    refine ⟨?_,?_,World.grownBy.trans' B1.out hb3⟩
    ·rw [HE.out,HC.out.1];rfl
    ·rw [HE.out,HC.out.2];exact h3
   ·by_cases h2:122<S[k].toNat
    ·have h1':97≤(S[k].toNat:Int):=by omega
     have h2':122<(S[k].toNat:Int):=by omega
     have HL:Hid (ja5 S[k]=false):=by simp [ja5,Hid];omega
     have HC:=hcut (.inr ⟨_,HX.out,HL.out⟩)
     clear hcut
     go_wp2_with fail
     refine (jv2 ⟨jau r,b⟩ k g _ H1.out (by simp only;omega) (by simp only;omega)).mono ?_
     rintro e w3 ⟨rfl,h3,hb3⟩
     go_wp2
     go_ret
     refine ⟨?_,?_,World.grownBy.trans' B1.out hb3⟩
     ·rw [HE.out,HC.out.1];rfl
     ·rw [HE.out,HC.out.2];exact h3
    ·have h1':97≤(S[k].toNat:Int):=by omega
     have h2':(S[k].toNat:Int)≤122:=by omega
     have HL:Hid (ja5 S[k]=true):=by simp [ja5,Hid];omega
     clear hcut
     go_wp2
     exact ⟨⟨k+1,by omega,by go_num,yf9 hf.out HX.out HL.out,by first | trivial | rfl⟩,by simp [intOf];omega⟩
  ·have hge:(S.size:Int)≤k:=by omega
   have HC:=hcut (.inl (by omega))
   clear hcut
   go_wp2_with fail
   refine (jv2 ⟨jau r,b⟩ k g _ H1.out (by simp only;omega) (by simp only;omega)).mono ?_
   rintro e w3 ⟨rfl,h3,hb3⟩
   go_wp2
   go_ret
   refine ⟨?_,?_,World.grownBy.trans' B1.out hb3⟩
   ·rw [HE.out,HC.out.1];rfl
   ·rw [HE.out,HC.out.2];exact h3
theorem jbm (l:Bs):(bs l).toList=l:=by rw [ByteArray.toList_eq,jdb]
theorem yft (v:Bs) (p:PS) (g:Nat) (w:World) (h:PA w g p) (hs:p.rest.length≤2000) :
  Calls Tryz.prog 142 #[.pointer (some ⟨g,0,none⟩),.string (bs v)] w fun e w'=>e = .returned (.bool (jcx v p).1)∧PA w' g (jcx v p).2∧w.grownBy w' (some g):=by
 have H:=Lib.hid h
 have HE:Hid (jcx v p=(decide ((jcg p).1=v),⟨(jcg p).2.rest,p.bad || (decide ((jcg p).1 ≠ []) && decide ((jcg p).1≠v))⟩)):=rfl
 have HB:Hid ((jcg p).2.bad=p.bad):=rfl
 go_enter Tryz.func142,Tryz.ntmps142
 go_wp2_with fail
 refine (yfu p g _ H.out hs).mono ?_
 rintro e w1 ⟨rfl,h1,hb1⟩
 have H1:=Lib.hid h1
 have B1:=Lib.hid hb1
 obtain ⟨hg1,d0,d1,e0,e1⟩:=h1
 clear hb1
 have hx:=jbm (jcg p).1
 have hv:=jbm v
 generalize hW:(jcg p).1=W at *
 by_cases h0:W = []
 ·subst h0
  by_cases h2:v = []
  ·subst h2
   go_wp2
   go_ret
   refine ⟨jad (by rw [HE.out];rfl),?_,B1.out⟩
   rw [HE.out]
   have:=H1.out
   rw [← HB.out]
   simpa using this
  ·have k1:([] == v)=false:=by cases v with | nil=>exact absurd rfl h2 | cons a l=>rfl
   have k2:¬ []=v:=fun h=>h2 h.symm
   go_wp2
   go_ret
   refine ⟨jad (by rw [HE.out];simp [k2]),?_,B1.out⟩
   rw [HE.out]
   have:=H1.out
   rw [← HB.out]
   simpa using this
 ·have k0:W.isEmpty=false:=by cases W with | nil=>exact absurd rfl h0 | cons a l=>rfl
  by_cases h2:W=v
  ·subst h2
   go_wp2
   go_ret
   refine ⟨jad (by rw [HE.out];simp),?_,B1.out⟩
   rw [HE.out]
   have:=H1.out
   rw [← HB.out]
   simpa using this
  ·have k1:(W == v)=false:=beq_eq_false_iff_ne.2 h2
   go_wp2
   go_ret
   refine ⟨jad (by rw [HE.out];simp [h2]),?_,World.grownBy.trans' B1.out (jcv ..)⟩
   rw [HE.out]
   have:=H1.out.set1 true
   simpa [h0,h2] using this
end Go.Proofs.YthmlndmlnlfhnaaGreatDoor
