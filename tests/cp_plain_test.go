package tests

import (
	"bytes"
	"fmt"
	"slices"
	"testing"

	"loop.example/s02533/impl"
)

// plainAct reads what chapter 11 asks of an act: the snapshot that it is about.
func plainAct(f impl.Fsinfo, list []impl.Snap, act impl.Act) (impl.Snap, int) {
	at := slices.IndexFunc(list, func(s impl.Snap) bool { return s.Name == act.Name })
	switch act.Kind {
	case 0:
		return impl.Snap{}, impl.OK
	case 1:
		if code := impl.CheckName(act.Name); code != impl.OK {
			return impl.Snap{}, code
		}
		if at >= 0 {
			return impl.Snap{}, impl.ErrExist
		}
		for plane := 1; plane <= 31; plane++ {
			if f.Snaps[plane-1] == 0 {
				return impl.Snap{Plane: plane, Name: act.Name}, impl.OK
			}
		}
		return impl.Snap{}, impl.ErrSnaps
	case 2, 3:
		if at < 0 {
			return impl.Snap{}, impl.ErrNoEnt
		}
		return list[at], impl.OK
	}
	return impl.Snap{}, impl.ErrKind
}

// plainFreeAll are all free blocks of a map, from the cursor on.
func plainFreeAll(words []int, cursor int) []int {
	list := []int{}
	for k := range len(words) - 2 {
		b := 2 + (cursor-2+k)%(len(words)-2)
		if words[b] == 0 {
			list = append(list, b)
		}
	}
	return list
}

// plainLaying writes a state against a table by the letter of chapter 10, with the
// numbers of a list: the inodes, the root of their table, the blocks, the code.
func plainLaying(image []byte, ref impl.Root, s impl.State, free []int) ([]impl.Inode, impl.Root, []impl.Put, int) {
	table, code := plainInodes(image, ref)
	if code != impl.OK {
		return nil, impl.Root{}, nil, impl.ErrCorrupt
	}
	old := func(number int) impl.Root {
		if number < len(table) {
			return table[number].Root
		}
		return impl.Root{}
	}
	for number, n := range s.Nodes {
		if !zeroNode(n) && plainOpen(image, old(number)).wrong {
			return nil, impl.Root{}, nil, impl.ErrCorrupt
		}
	}
	made, all := make([]impl.Inode, len(s.Nodes)), []impl.Put{}
	for number, n := range s.Nodes {
		if zeroNode(n) {
			continue
		}
		r, puts, code := plainRenew(image, old(number), n.Data, free[len(all):])
		if code != impl.OK {
			return nil, impl.Root{}, nil, code
		}
		all = append(all, puts...)
		made[number] = inodeWith(n, r)
	}
	r, puts, code := plainRenew(image, ref, plainTable(made), free[len(all):])
	return made, r, append(all, puts...), code
}

// setBit makes one plane's bit that of just these blocks.
func setBit(words []int, plane int, set map[int]bool) {
	for b := 2; b < len(words); b++ {
		words[b] &^= 1 << plane
		if set[b] {
			words[b] |= 1 << plane
		}
	}
}

// reachedIn adds the blocks of trees to a set; it says whether they can be read.
func reachedIn(image []byte, set map[int]bool, roots ...impl.Root) bool {
	for _, r := range roots {
		_, list, code := plainRead(image, r)
		if code != impl.OK {
			return false
		}
		for _, b := range list {
			set[b] = true
		}
	}
	return true
}

func rootsOf(table impl.Root, list []impl.Inode) []impl.Root {
	roots := []impl.Root{table}
	for _, i := range list {
		roots = append(roots, i.Root)
	}
	return roots
}

// plainOrder are the blocks by number; of one that is written twice the later bytes.
func plainOrder(blocks int, puts []impl.Put) []impl.Put {
	list := []impl.Put{}
	for b := range blocks {
		for k := len(puts) - 1; k >= 0; k-- {
			if puts[k].Block == b {
				list = append(list, puts[k])
				break
			}
		}
	}
	return list
}

// plainPlan plans a consistency point by the letter of chapter 11.
func plainPlan(image []byte, s impl.State, ops int, act impl.Act) (impl.CpOut, int) {
	refused := func(code int) (impl.CpOut, int) { return impl.CpOut{}, code }
	f, _, code := plainChoose(image)
	if code != impl.OK {
		return refused(code)
	}
	words, code := plainMapWords(image)
	if code != impl.OK {
		return refused(code)
	}
	list, code := plainSnapshots(image)
	if code != impl.OK {
		return refused(code)
	}
	if !plainState(s) {
		return refused(impl.ErrCorrupt)
	}
	if ops < f.Ops || ops > 1<<40 || f.Gen == 1<<40 {
		return refused(impl.ErrRange)
	}
	snap, code := plainAct(f, list, act)
	if code != impl.OK {
		return refused(code)
	}
	ref := f.Ino
	if act.Kind == 3 {
		ref = snap.Root
	}
	free := plainFreeAll(words, f.Cursor)
	made, table, puts, code := plainLaying(image, ref, s, free)
	if code != impl.OK {
		return refused(code)
	}
	fresh := putDown(image, puts)
	out := impl.CpOut{Info: f}
	out.Info.Gen, out.Info.Clock, out.Info.Ops, out.Info.Ino = f.Gen+1, s.Clock, ops, table
	if act.Kind == 1 {
		if len(puts) == len(free) {
			return refused(impl.ErrNoSpace)
		}
		b := free[len(puts)]
		out.Info.Snaps[snap.Plane-1] = b
		puts = append(puts, impl.Put{Block: b, Data: plainSnap(impl.Snap{Plane: snap.Plane, Name: act.Name, Gen: f.Gen + 1, Clock: s.Clock, Root: table})})
	}
	cursor := f.Cursor
	if len(puts) > 0 {
		if cursor = puts[len(puts)-1].Block + 1; cursor == f.Blocks {
			cursor = 2
		}
	}
	trees := map[int]bool{}
	if !reachedIn(fresh, trees, rootsOf(table, made)...) {
		return refused(impl.ErrCorrupt)
	}
	switch act.Kind {
	case 1:
		trees[out.Info.Snaps[snap.Plane-1]] = true
		setBit(words, snap.Plane, trees)
		trees = map[int]bool{}
		reachedIn(fresh, trees, rootsOf(table, made)...)
	case 2:
		setBit(words, snap.Plane, nil)
		out.Info.Snaps[snap.Plane-1] = 0
	}
	reachedIn(image, trees, f.Map)
	setBit(words, 0, trees)
	flushed, code, _ := plainFlush(image, f.Map, words, cursor)
	if code != impl.OK {
		return refused(code)
	}
	out.Info.Map, out.Info.Cursor = flushed.Root, flushed.Cursor
	out.Puts = plainOrder(f.Blocks, append(puts, flushed.Puts...))
	return out, impl.OK
}

// plainSteps are the steps of a plan whose Info is right.
func plainSteps(out impl.CpOut) []impl.DiskOp {
	list := []impl.DiskOp{}
	for _, p := range out.Puts {
		list = append(list, impl.DiskOp{Kind: 2, A: p.Block, Data: bytes.Clone(p.Data)})
	}
	barrier := impl.DiskOp{Kind: 3}
	first, second := impl.DiskOp{Kind: 2, A: 0, Data: plainFsinfo(out.Info)}, impl.DiskOp{Kind: 2, A: 1, Data: plainFsinfo(out.Info)}
	return append(list, barrier, first, barrier, second, barrier)
}

func samePlan(a, b impl.CpOut) bool { return a.Info == b.Info && samePuts(a.Puts, b.Puts) }

func blocksPut(puts []impl.Put) []int {
	list := []int{}
	for _, p := range puts {
		list = append(list, p.Block)
	}
	return list
}

func tellPlan(out impl.CpOut) string {
	return fmt.Sprint("puts ", blocksPut(out.Puts), " info ", out.Info)
}

// sharing writes over lists; it says whether two of them share memory.
func sharing(lists [][]byte) bool {
	ans := impl.State{}
	for _, list := range lists {
		ans.Nodes = append(ans.Nodes, impl.Node{Data: list})
	}
	return scribble(ans, impl.Ans{})
}

// plans asks for the plan of the plain rule and its steps, and that nothing that was
// handed in is changed or shared; it tells the plan and the code.
func plans(t *testing.T, name string, image []byte, s impl.State, ops int, act impl.Act) (impl.CpOut, int) {
	t.Helper()
	handed, state := spareImage(image), handedOver(s)
	got, code := impl.CpPlan(handed, state, ops, act)
	want, wantCode := plainPlan(image, s, ops, act)
	if code != wantCode || !samePlan(got, want) {
		t.Errorf("%s, ops %d, act %d %.40q: %s, code %d, want %s, code %d", name, ops, act.Kind, act.Name, tellPlan(got), code, tellPlan(want), wantCode)
	}
	for k := 1; k < len(got.Puts); k++ {
		if got.Puts[k-1].Block >= got.Puts[k].Block {
			t.Errorf("%s: puts do not rise: %v", name, blocksPut(got.Puts))
		}
	}
	lists := [][]byte{}
	for _, p := range got.Puts {
		lists = append(lists, p.Data[:cap(p.Data)])
	}
	if sharing(lists) {
		t.Errorf("%s: puts share their memory", name)
	}
	if !bytes.Equal(handed, image) || !spareIntact(handed) || !intact(state, s) {
		t.Errorf("%s: an argument has been changed, or an answer shares its memory", name)
	}
	if wantCode == impl.OK {
		steps(t, name, want)
	}
	return want, wantCode
}

// steps asks for the steps of a right Info, and that they share nothing.
func steps(t *testing.T, name string, out impl.CpOut) []impl.DiskOp {
	t.Helper()
	handed := impl.CpOut{Info: out.Info, Puts: make([]impl.Put, 0, len(out.Puts)+1)}
	for _, p := range out.Puts {
		handed.Puts = append(handed.Puts, impl.Put{Block: p.Block, Data: withSpare(p.Data)})
	}
	got, code := impl.CpSteps(handed)
	want := plainSteps(out)
	same := slices.EqualFunc(got, want, func(a, b impl.DiskOp) bool {
		return a.Kind == b.Kind && a.A == b.A && bytes.Equal(a.Data, b.Data)
	})
	if code != impl.OK || !same {
		t.Errorf("%s: %d steps, code %d, want %d", name, len(got), code, len(want))
	}
	lists := [][]byte{}
	for _, op := range got {
		lists = append(lists, op.Data[:cap(op.Data)])
	}
	if sharing(lists) {
		t.Errorf("%s: steps share their memory", name)
	}
	for k, p := range handed.Puts {
		if !bytes.Equal(p.Data, out.Puts[k].Data) || !spareIntact(p.Data) || p.Block != out.Puts[k].Block {
			t.Errorf("%s: an argument has been changed, or shares its memory", name)
		}
	}
	return want
}

// switched is the image behind the steps of a plan.
func switched(t *testing.T, image []byte, out impl.CpOut) []byte {
	t.Helper()
	list, code := impl.CpSteps(out)
	run := impl.DiskRun(image, list)
	if code != impl.OK || run.Code != impl.OK || run.Cached != 0 {
		t.Fatalf("steps: code %d, device %d, %d cached", code, run.Code, run.Cached)
	}
	for k, ans := range run.Answers {
		if ans.Code != impl.OK {
			t.Fatalf("step %d: code %d", k, ans.Code)
		}
	}
	return run.Image
}

// planRefused asks for a code, and nothing else.
func planRefused(t *testing.T, name string, image []byte, s impl.State, ops int, act impl.Act, want int) {
	t.Helper()
	if out, code := plans(t, name, image, s, ops, act); code != want || !samePlan(out, impl.CpOut{}) {
		t.Errorf("%s, ops %d, act %d %.40q: the rule of the test says %d, want %d", name, ops, act.Kind, act.Name, code, want)
	}
	if out, code := impl.CpPlan(image, s, ops, act); code != want || !samePlan(out, impl.CpOut{}) || len(out.Puts) != 0 {
		t.Errorf("%s, ops %d, act %d %.40q: %s, code %d, want %d", name, ops, act.Kind, act.Name, tellPlan(out), code, want)
	}
}

// reachedPlanes are the words that a volume should have: what each plane reaches.
func reachedPlanes(t *testing.T, name string, image []byte) []int {
	t.Helper()
	f, _, code := impl.ChooseFsinfo(image)
	if code != impl.OK {
		t.Fatalf("%s: no record, code %d", name, code)
	}
	words := emptyWords(f.Blocks)
	reach := func(plane int, table impl.Root, more ...impl.Root) map[int]bool {
		inodes, code := plainInodes(image, table)
		set := map[int]bool{}
		if code != impl.OK || !reachedIn(image, set, append(rootsOf(table, inodes), more...)...) {
			t.Fatalf("%s: plane %d can't be read", name, plane)
		}
		return set
	}
	setBit(words, 0, reach(0, f.Ino, f.Map))
	list, code := impl.Snapshots(image)
	if code != impl.OK {
		t.Fatalf("%s: snapshots, code %d", name, code)
	}
	for _, snap := range list {
		set := reach(snap.Plane, snap.Root)
		set[f.Snaps[snap.Plane-1]] = true
		setBit(words, snap.Plane, set)
	}
	return words
}

// hungTwice says whether a block hangs twice in plane 0.
func hungTwice(image []byte) bool {
	f, _, _ := plainChoose(image)
	list, _ := plainInodes(image, f.Ino)
	seen := map[int]bool{}
	for _, r := range append(rootsOf(f.Ino, list), f.Map) {
		_, blocks, _ := plainRead(image, r)
		for _, b := range blocks {
			if seen[b] {
				return true
			}
			seen[b] = true
		}
	}
	return false
}

// keepsPromise asks for promise 13 of a volume's image, beside the plain rule; it
// tells the image behind the steps (as it was, if the plan was refused) and the code.
func keepsPromise(t *testing.T, name string, image []byte, s impl.State, ops int, act impl.Act) ([]byte, int) {
	t.Helper()
	out, code := plans(t, name, image, s, ops, act)
	room, roomCode := impl.Room(image, s)
	if roomCode != impl.OK {
		t.Fatalf("%s: Room, code %d", name, roomCode)
	}
	if act.Kind == impl.ActCreate {
		room--
	}
	if code == impl.ErrNoSpace && room >= 0 && act.Kind != impl.ActRestore {
		t.Errorf("%s: refused for space, but there is room: %d", name, room)
	}
	if code != impl.OK {
		return image, code
	}
	words, _ := impl.MapWords(image)
	before, _, _ := impl.ChooseFsinfo(image)
	for _, p := range out.Puts {
		if p.Block < 2 || words[p.Block] != 0 {
			t.Errorf("%s: block %d is written, its word is %d", name, p.Block, words[p.Block])
		}
	}
	behind := switched(t, image, out)
	spotless(t, name, behind)
	if got, slot, code := impl.ChooseFsinfo(behind); got != out.Info || slot != 0 || code != impl.OK || !bytes.Equal(behind[:512], behind[512:1024]) {
		t.Errorf("%s: the record behind it: %v, block %d, code %d", name, got, slot, code)
	}
	if got, code := impl.LoadState(behind); code != impl.OK || !sameState(got, s) {
		t.Errorf("%s: loads as another state, code %d", name, code)
	}
	if got, code := impl.MapWords(behind); code != impl.OK || !slices.Equal(got, reachedPlanes(t, name, behind)) || hungTwice(behind) {
		t.Errorf("%s: words %v, want %v, code %d", name, got, reachedPlanes(t, name, behind), code)
	}
	ref, extra := before.Ino, 0
	switch act.Kind {
	case impl.ActCreate:
		extra = 1
	case impl.ActRestore:
		list, _ := impl.Snapshots(image)
		ref = list[slices.IndexFunc(list, func(s impl.Snap) bool { return s.Name == act.Name })].Root
	}
	fresh, _ := impl.FreshCount(image, ref, s)
	if own := newMapBlocks(image, before, behind, out.Info); len(out.Puts) != fresh+extra+own || own > impl.MapReserve(before.Blocks) {
		t.Errorf("%s: %d puts, %d fresh and %d of the map", name, len(out.Puts), fresh+extra, own)
	}
	return behind, impl.OK
}

// newMapBlocks is how many blocks of the new map the old one does not have.
func newMapBlocks(image []byte, old impl.Fsinfo, behind []byte, now impl.Fsinfo) int {
	before, _ := impl.TreeBlocks(image, old.Map)
	list, _ := impl.TreeBlocks(behind, now.Map)
	return len(slices.DeleteFunc(list, func(b int) bool { return slices.Contains(before, b) }))
}
