package tests

import (
	"bytes"
	"fmt"
	"slices"
	"testing"

	"loop.example/s02533/impl"
)

// mason makes volumes by hand, block behind block, without the functions that
// are tested.
type mason struct {
	image []byte
	info  impl.Fsinfo
	next  int
	words []int
}

func newMason(blocks int) *mason {
	return &mason{image: blank(blocks), info: impl.Fsinfo{Gen: 5, Blocks: blocks, Cursor: 2, Clock: 9, Ops: 3}, next: 2, words: emptyWords(blocks)}
}

// lay writes bytes as a tree into the next blocks.
func (m *mason) lay(content []byte) impl.Root {
	free := []int{}
	for b := m.next; b < len(m.words); b++ {
		free = append(free, b)
	}
	r, puts, code := plainWrite(m.image, impl.Root{}, content, free)
	if code != impl.OK {
		panic(fmt.Sprint("the test's own volume is full: code ", code))
	}
	m.image = putDown(m.image, puts)
	for _, p := range puts {
		m.words[p.Block] = 1
	}
	m.next += len(puts)
	return r
}

func inodeWith(n impl.Node, r impl.Root) impl.Inode {
	return impl.Inode{Kind: n.Kind, Links: n.Links, Mode: n.Mode, Uid: n.Uid, Gid: n.Gid, Parent: n.Parent, Gen: n.Gen, Mtime: n.Mtime, Ctime: n.Ctime, Root: r}
}

// inodes writes the bytes of the nodes.
func (m *mason) inodes(s impl.State) []impl.Inode {
	list := make([]impl.Inode, len(s.Nodes))
	for number, n := range s.Nodes {
		if !zeroNode(n) {
			list[number] = inodeWith(n, m.lay(n.Data))
		}
	}
	return list
}

func plainTable(list []impl.Inode) []byte {
	b := []byte{}
	for _, i := range list {
		b = append(b, plainInode(i)...)
	}
	return b
}

// state writes a state: the root of its table.
func (m *mason) state(s impl.State) impl.Root {
	return m.lay(plainTable(m.inodes(s)))
}

// block puts the bytes of a block down; it tells which it is.
func (m *mason) block(data []byte) int {
	b := m.next
	copy(m.image[512*b:512*b+512], data)
	m.words[b] = 2
	m.next++
	return b
}

func (m *mason) snap(plane int, name string, clock int, root impl.Root) {
	m.info.Snaps[plane-1] = m.block(plainSnap(impl.Snap{Plane: plane, Name: name, Gen: 4, Clock: clock, Root: root}))
}

func plainWords(words []int) []byte {
	b := make([]byte, 4*len(words))
	for k, w := range words {
		put32(b, 4*k, w)
	}
	return b
}

// done puts the map and the record down.
func (m *mason) done() []byte {
	m.info.Map = m.lay(plainWords(m.words))
	putRecords(m.image, m.info, m.info)
	return bytes.Clone(m.image)
}

func putRecords(image []byte, first, second impl.Fsinfo) {
	copy(image[:512], plainFsinfo(first))
	copy(image[512:1024], plainFsinfo(second))
}

// volumeOf is a volume of one state, with the state's Clock.
func volumeOf(blocks int, s impl.State) []byte {
	m := newMason(blocks)
	m.info.Clock = s.Clock
	m.info.Ino = m.state(s)
	return m.done()
}

// withRecord is the image with both copies of its record changed.
func withRecord(image []byte, change func(f *impl.Fsinfo)) []byte {
	image = bytes.Clone(image)
	f, _, code := plainChoose(image)
	if code != impl.OK {
		panic("the test's own volume has no record")
	}
	change(&f)
	putRecords(image, f, f)
	return image
}

// plainChoose reads chapter 10's rule of the two copies.
func plainChoose(image []byte) (impl.Fsinfo, int, int) {
	n := len(image) / 512
	if len(image)%512 != 0 || n < 64 || n > 2048 {
		return impl.Fsinfo{}, 0, impl.ErrInval
	}
	first, code := impl.DecodeFsinfo(image[:512])
	one := code == impl.OK && first.Blocks == n
	second, code := impl.DecodeFsinfo(image[512:1024])
	two := code == impl.OK && second.Blocks == n
	switch {
	case one && (!two || first.Gen >= second.Gen):
		return first, 0, impl.OK
	case two:
		return second, 1, impl.OK
	}
	return impl.Fsinfo{}, 0, impl.ErrCorrupt
}

func plainMapWords(image []byte) ([]int, int) {
	f, _, code := plainChoose(image)
	if code != impl.OK {
		return nil, code
	}
	content, _, code := plainRead(image, f.Map)
	if code != impl.OK {
		return nil, impl.ErrCorrupt
	}
	words := make([]int, f.Blocks)
	for b := range words {
		words[b] = wordAt(content, 0, b)
	}
	if words[0] != 1 || words[1] != 1 {
		return nil, impl.ErrCorrupt
	}
	return words, impl.OK
}

func plainSnapshots(image []byte) ([]impl.Snap, int) {
	f, _, code := plainChoose(image)
	if code != impl.OK {
		return nil, code
	}
	list, names := []impl.Snap{}, map[string]bool{}
	for plane := 1; plane <= 31; plane++ {
		b := f.Snaps[plane-1]
		if b == 0 {
			continue
		}
		if b >= f.Blocks {
			return nil, impl.ErrCorrupt
		}
		s, code := impl.DecodeSnap(image[512*b : 512*b+512])
		if code != impl.OK || s.Plane != plane || names[s.Name] {
			return nil, impl.ErrCorrupt
		}
		names[s.Name] = true
		list = append(list, s)
	}
	return list, impl.OK
}

// plainInodes reads a table.
func plainInodes(image []byte, r impl.Root) ([]impl.Inode, int) {
	content, _, code := plainRead(image, r)
	if code != impl.OK {
		return nil, impl.ErrCorrupt
	}
	return impl.DecodeTable(content)
}

func plainLoad(image []byte, r impl.Root, clock int) (impl.State, int) {
	list, code := plainInodes(image, r)
	if code != impl.OK {
		return impl.State{}, impl.ErrCorrupt
	}
	s := impl.State{Clock: clock}
	for _, i := range list {
		data, _, code := plainRead(image, i.Root)
		if code != impl.OK {
			return impl.State{}, impl.ErrCorrupt
		}
		s.Nodes = append(s.Nodes, impl.Node{Kind: i.Kind, Links: i.Links, Mode: i.Mode, Uid: i.Uid, Gid: i.Gid, Parent: i.Parent, Gen: i.Gen, Mtime: i.Mtime, Ctime: i.Ctime, Data: data})
	}
	if !plainState(s) {
		return impl.State{}, impl.ErrCorrupt
	}
	return s, impl.OK
}

func plainLoadState(image []byte) (impl.State, int) {
	f, _, code := plainChoose(image)
	if code != impl.OK {
		return impl.State{}, code
	}
	return plainLoad(image, f.Ino, f.Clock)
}

func plainLoadSnap(image []byte, name string) (impl.State, int) {
	list, code := plainSnapshots(image)
	if code != impl.OK {
		return impl.State{}, code
	}
	for _, s := range list {
		if s.Name == name {
			return plainLoad(image, s.Root, s.Clock)
		}
	}
	return impl.State{}, impl.ErrNoEnt
}

// strangers are numbers that no word of the image is equal to.
func strangers(image []byte) []int {
	seen := map[int]bool{}
	for k := range len(image) / 4 {
		seen[wordAt(image, 0, k)] = true
	}
	list := []int{}
	for n := 3000000000; len(list) < 6000; n++ {
		if !seen[n] {
			list = append(list, n)
		}
	}
	return list
}

func rightRoot(r impl.Root) bool {
	_, code := impl.EncodeRoot(r)
	return code == impl.OK
}

// plainFresh writes a state against a tree of inodes by the letter of chapter 10,
// with numbers that no pointer is equal to.
func plainFresh(image []byte, ref impl.Root, s impl.State) (int, int) {
	n := len(image) / 512
	if len(image)%512 != 0 || n < 64 || n > 2048 || !rightRoot(ref) {
		return 0, impl.ErrInval
	}
	if !plainState(s) {
		return 0, impl.ErrCorrupt
	}
	table, code := plainInodes(image, ref)
	if code != impl.OK {
		return 0, impl.ErrCorrupt
	}
	free, fresh := strangers(image), 0
	made := make([]impl.Inode, len(s.Nodes))
	for number, n := range s.Nodes {
		if zeroNode(n) {
			continue
		}
		old := impl.Root{}
		if number < len(table) {
			old = table[number].Root
		}
		r, puts, code := plainRenew(image, old, n.Data, free[fresh:])
		if code != impl.OK {
			return 0, impl.ErrCorrupt
		}
		fresh += len(puts)
		made[number] = inodeWith(n, r)
	}
	_, puts, _ := plainRenew(image, ref, plainTable(made), free[fresh:])
	return fresh + len(puts), impl.OK
}

func plainRoom(image []byte, s impl.State) (int, int) {
	words, code := plainMapWords(image)
	if code != impl.OK {
		return 0, code
	}
	f, _, _ := plainChoose(image)
	fresh, code := plainFresh(image, f.Ino, s)
	if code != impl.OK {
		return 0, code
	}
	free := 0
	for _, w := range words {
		if w == 0 {
			free++
		}
	}
	own := (len(words) + 127) / 128
	if own > 12 {
		own++
	}
	return free - fresh - own, impl.OK
}

// plainFormat lays a new volume down by the letter of chapter 10.
func plainFormat(blocks, every, log int) []byte {
	image := blank(blocks)
	copy(image[2*512+128:], plainInode(impl.Inode{Kind: 2, Links: 2, Mode: 493, Parent: 1, Gen: 1, Mtime: 1, Ctime: 1}))
	words := emptyWords(blocks)
	words[2] = 1
	out, code, _ := plainFlush(image, impl.Root{}, words, 3)
	if code != impl.OK {
		panic("the test's own map has no place")
	}
	image = putDown(image, out.Puts)
	f := impl.Fsinfo{Gen: 1, Blocks: blocks, Cursor: out.Cursor, Clock: 1, Every: every, Log: log,
		Ino: impl.Root{Size: 256, Direct: [12]int{2}}, Map: out.Root}
	putRecords(image, f, f)
	return image
}

// spareImage is the image as a caller may have it, with memory behind its end.
func spareImage(image []byte) []byte { return withSpare(image) }

// readsTheVolume holds all that is read of an image alone against the rules, and
// looks that nothing is shared; it answers the codes of ChooseFsinfo, MapWords,
// Snapshots and LoadState.
func readsTheVolume(t *testing.T, name string, image []byte, names ...string) [4]int {
	t.Helper()
	handed := spareImage(image)
	f, slot, chosen := impl.ChooseFsinfo(handed)
	if wantF, wantSlot, want := plainChoose(image); f != wantF || slot != wantSlot || chosen != want {
		t.Errorf("%s: ChooseFsinfo: Gen %d, block %d, code %d, want Gen %d, block %d, code %d", name, f.Gen, slot, chosen, wantF.Gen, wantSlot, want)
	}
	words, mapped := impl.MapWords(handed)
	if wantWords, want := plainMapWords(image); !slices.Equal(words, wantWords) || mapped != want {
		t.Errorf("%s: MapWords: %d words, code %d, want %d words, code %d", name, len(words), mapped, len(wantWords), want)
	}
	clear(words[:cap(words)])
	list, listed := impl.Snapshots(handed)
	if wantList, want := plainSnapshots(image); !slices.Equal(list, wantList) || listed != want {
		t.Errorf("%s: Snapshots: %v, code %d, want %v, code %d", name, list, listed, wantList, want)
	}
	for _, s := range list {
		names = append(names, s.Name)
	}
	clear(list[:cap(list)])
	s, loaded := impl.LoadState(handed)
	wantS, want := plainLoadState(image)
	looksAs(t, name+": LoadState", s, loaded, wantS, want)
	for _, snap := range append(names, "", "nobody") {
		s, code := impl.LoadSnap(handed, snap)
		wantS, want := plainLoadSnap(image, snap)
		looksAs(t, fmt.Sprintf("%s: LoadSnap of %q", name, snap), s, code, wantS, want)
	}
	if !bytes.Equal(handed, image) || !spareIntact(handed) {
		t.Errorf("%s: the image has been changed, or an answer shares its memory", name)
	}
	return [4]int{chosen, mapped, listed, loaded}
}

func looksAs(t *testing.T, name string, s impl.State, code int, want impl.State, wantCode int) {
	t.Helper()
	if code != wantCode || !sameState(s, want) {
		t.Errorf("%s: Clock %d, %d nodes, code %d, want Clock %d, %d nodes, code %d", name, s.Clock, len(s.Nodes), code, want.Clock, len(want.Nodes), wantCode)
	}
	if scribble(s, impl.Ans{}) {
		t.Errorf("%s: two nodes share their memory", name)
	}
}

// counts holds FreshCount and Room against the rules.
func counts(t *testing.T, name string, image []byte, ref impl.Root, s impl.State) (int, int) {
	t.Helper()
	handed, state := spareImage(image), handedOver(s)
	fresh, code := impl.FreshCount(handed, ref, state)
	want, wantCode := plainFresh(image, ref, s)
	if fresh != want || code != wantCode {
		t.Errorf("%s: FreshCount: %d, code %d, want %d, code %d", name, fresh, code, want, wantCode)
	}
	room, code := impl.Room(handed, state)
	if want, wantCode := plainRoom(image, s); room != want || code != wantCode {
		t.Errorf("%s: Room: %d, code %d, want %d, code %d", name, room, code, want, wantCode)
	}
	if !bytes.Equal(handed, image) || !spareIntact(handed) || !intact(state, s) {
		t.Errorf("%s: an argument has been changed", name)
	}
	return want, wantCode
}

// freshOf asks for a number too, against the record's own table.
func freshOf(t *testing.T, name string, image []byte, s impl.State, want int) {
	t.Helper()
	f, _, _ := plainChoose(image)
	if n, code := counts(t, name, image, f.Ino, s); n != want || code != impl.OK {
		t.Errorf("%s: %d fresh blocks, code %d, want %d", name, n, code, want)
	}
}
