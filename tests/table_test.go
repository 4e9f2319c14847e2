package tests

import (
	"bytes"
	"fmt"
	"math"
	"math/rand"
	"slices"
	"testing"

	"loop.example/s02533/impl"
)

func rootInode() impl.Inode {
	return impl.Inode{Kind: impl.KindDir, Links: 2, Mode: 493, Parent: 1, Gen: 1, Mtime: 1, Ctime: 1}
}

func fileInode(gen int) impl.Inode {
	return impl.Inode{Kind: impl.KindFile, Links: 1, Mode: 420, Uid: 5, Gid: 6, Gen: gen, Mtime: gen, Ctime: gen,
		Root: impl.Root{Size: 600, Direct: [12]int{7, 2047}}}
}

func linkInode() impl.Inode {
	return impl.Inode{Kind: impl.KindLink, Links: 1000, Mode: 4095, Uid: 65535, Gid: 65535, Gen: impl.MaxClock, Mtime: impl.MaxClock, Ctime: impl.MaxClock,
		Root: impl.Root{Size: 255, Direct: [12]int{2}}}
}

// inodesAt is a list of so many inodes of which those at the places aren't free.
func inodesAt(many int, places ...int) []impl.Inode {
	list := make([]impl.Inode, many)
	for _, at := range places {
		list[at] = []impl.Inode{fileInode(1 + at), rootInode(), linkInode()}[at%3]
	}
	return list
}

// upTo is a list in which every inode from 1 to last isn't free.
func upTo(last, many int) []impl.Inode {
	list := make([]impl.Inode, many)
	for at := 1; at <= last; at++ {
		list[at] = []impl.Inode{fileInode(1 + at), rootInode(), linkInode()}[at%3]
	}
	return list
}

// wrongInodes are inodes that aren't right, some of them nearly free.
func wrongInodes() []impl.Inode {
	change := func(how func(i *impl.Inode)) impl.Inode {
		i := fileInode(3)
		how(&i)
		return i
	}
	list := []impl.Inode{
		{Kind: impl.KindFile}, {Links: 1}, {Mode: 1}, {Uid: 1}, {Gid: -1}, {Parent: 1}, {Gen: 1}, {Mtime: math.MinInt}, {Ctime: math.MaxInt},
		{Root: impl.Root{Size: 1}}, {Root: impl.Root{Direct: [12]int{11: 2}}}, {Root: impl.Root{Single: 2}}, {Root: impl.Root{Double: 2}},
		change(func(i *impl.Inode) { i.Kind = impl.KindFree }),
		change(func(i *impl.Inode) { i.Kind = 4 }),
		change(func(i *impl.Inode) { i.Kind = -1 }),
		change(func(i *impl.Inode) { i.Kind = 256 + impl.KindFile }),
		change(func(i *impl.Inode) { i.Links = 0 }),
		change(func(i *impl.Inode) { i.Links = impl.MaxLinks + 1 }),
		change(func(i *impl.Inode) { i.Mode = impl.MaxMode + 1 }),
		change(func(i *impl.Inode) { i.Uid = impl.MaxId + 1 }),
		change(func(i *impl.Inode) { i.Gid = -1 }),
		change(func(i *impl.Inode) { i.Parent = 1 }),
		change(func(i *impl.Inode) { i.Kind = impl.KindDir }),
		change(func(i *impl.Inode) { i.Gen = 0 }),
		change(func(i *impl.Inode) { i.Mtime = impl.MaxClock + 1 }),
		change(func(i *impl.Inode) { i.Ctime = 0 }),
		change(func(i *impl.Inode) { i.Root.Size = impl.MaxFile + 1 }),
		change(func(i *impl.Inode) { i.Root.Direct[0] = 1 }),
		change(func(i *impl.Inode) { i.Root.Direct[2] = 9 }),
		change(func(i *impl.Inode) { i.Root.Single = 9 }),
	}
	return list
}

// laysDown holds a list of right inodes against its bytes, inode by inode, and
// the bytes against the list that is read of them.
func laysDown(t *testing.T, name string, list []impl.Inode, last int) []byte {
	t.Helper()
	before := slices.Clone(list)
	want := []byte{}
	read := make([]impl.Inode, last+1)
	for at := range read {
		if at < len(list) {
			read[at] = list[at]
		}
		if read[at] == (impl.Inode{}) {
			want = append(want, make([]byte, 128)...)
		} else {
			want = append(want, plainInode(read[at])...)
		}
	}
	got, code := impl.EncodeTable(list)
	if code != impl.OK || !bytes.Equal(got, want) {
		t.Fatalf("%s: code %d, %d bytes, want %d", name, code, len(got), len(want))
	}
	back, code := impl.DecodeTable(got)
	if code != impl.OK || !slices.Equal(back, read) {
		t.Fatalf("%s: read: code %d, %d inodes, want %d", name, code, len(back), len(read))
	}
	clear(back)
	if !bytes.Equal(got, want) {
		t.Errorf("%s: what was read has been changed", name)
	}
	if !slices.Equal(list, before) {
		t.Errorf("%s: the argument has been changed", name)
	}
	return got
}

func encodeRefused(t *testing.T, name string, list []impl.Inode) {
	t.Helper()
	before := slices.Clone(list)
	if b, code := impl.EncodeTable(list); code != impl.ErrInval || len(b) != 0 {
		t.Errorf("%s: %d bytes, code %d", name, len(b), code)
	}
	if !slices.Equal(list, before) {
		t.Errorf("%s: the argument has been changed", name)
	}
}

func decodeRefused(t *testing.T, name string, b []byte) {
	t.Helper()
	before := bytes.Clone(b)
	if list, code := impl.DecodeTable(b); code != impl.ErrCorrupt || len(list) != 0 {
		t.Errorf("%s: %d inodes, code %d", name, len(list), code)
	}
	if !bytes.Equal(b, before) {
		t.Errorf("%s: the argument has been changed", name)
	}
}

func TestTablesAreLaidDownAndRead(t *testing.T) {
	for _, c := range []struct {
		name string
		list []impl.Inode
		last int
	}{
		{"nil", nil, 1},
		{"no inode", []impl.Inode{}, 1},
		{"inode 0 alone", inodesAt(1), 1},
		{"two free ones", inodesAt(2), 1},
		{"three free ones", inodesAt(3), 1},
		{"free ones, more than there may be", inodesAt(2500), 1},
		{"the root", inodesAt(2, 1), 1},
		{"the root and free ones", inodesAt(40, 1), 1},
		{"without the root", inodesAt(3, 2), 2},
		{"free in the middle", inodesAt(8, 1, 2, 5, 7), 7},
		{"free in the middle and at the end", inodesAt(20, 1, 3, 9), 9},
		{"the last one alone", inodesAt(1001, 1000), 1000},
		{"MaxInodes", upTo(1000, 1001), 1000},
		{"MaxInodes less 1", upTo(999, 1000), 999},
		{"MaxInodes less 1 and a free one", upTo(999, 1001), 999},
		{"MaxInodes and a free one", upTo(1000, 1002), 1000},
		{"MaxInodes and many free ones", upTo(1000, 5000), 1000},
	} {
		laysDown(t, c.name, c.list, c.last)
	}
}

// Spare memory behind a list is neither read nor written.
func TestTableOfAListWithSpareMemory(t *testing.T) {
	whole := inodesAt(10, 1, 2, 3, 4, 5, 6, 7, 8, 9)
	for n := range 10 {
		laysDown(t, fmt.Sprint("the first ", n), whole[:n], max(1, n-1))
	}
	if !slices.Equal(whole, inodesAt(10, 1, 2, 3, 4, 5, 6, 7, 8, 9)) {
		t.Errorf("the memory behind the list has been changed")
	}
}

func TestTableAnswersAreNewMemory(t *testing.T) {
	list := inodesAt(5, 1, 4)
	first, _ := impl.EncodeTable(list)
	second, _ := impl.EncodeTable(list)
	clear(first)
	third, _ := impl.EncodeTable(list)
	if !bytes.Equal(second, third) || bytes.Equal(first, second) {
		t.Errorf("two answers share their memory")
	}
	one, _ := impl.DecodeTable(second)
	two, _ := impl.DecodeTable(second)
	clear(one)
	if !slices.Equal(two, list) || !bytes.Equal(second, third) {
		t.Errorf("what was read shares its memory")
	}
	clear(second)
	if !slices.Equal(two, list) {
		t.Errorf("what was read hangs on the bytes")
	}
}

func TestEncodeTableRefusesWrongInodes(t *testing.T) {
	for k, bad := range wrongInodes() {
		for _, many := range []int{1, 2, 3, 10, 1001, 1002, 2000} {
			for _, at := range []int{0, 1, 2, many / 2, many - 1} {
				if at >= many {
					continue
				}
				for _, list := range [][]impl.Inode{inodesAt(many), upTo(min(many-1, 1000), many)} {
					list[at] = bad
					encodeRefused(t, fmt.Sprintf("wrong inode %d at %d of %d", k, at, many), list)
				}
			}
		}
	}
}

func TestInodeZeroIsNeverUsed(t *testing.T) {
	for _, right := range []impl.Inode{rootInode(), fileInode(1), linkInode()} {
		for _, many := range []int{1, 2, 3, 1001, 1500} {
			list := upTo(min(many-1, 1000), many)
			list[0] = right
			encodeRefused(t, fmt.Sprint("inode 0 of ", many), list)
			empty := inodesAt(many)
			empty[0] = right
			encodeRefused(t, fmt.Sprint("inode 0 alone of ", many), empty)
		}
		for _, many := range []int{2, 3, 1001} {
			b, _ := impl.EncodeTable(upTo(many-1, many))
			copy(b, plainInode(right))
			decodeRefused(t, fmt.Sprint("inode 0 of ", many), b)
		}
	}
	for at := range 128 {
		b, _ := impl.EncodeTable(inodesAt(3, 1, 2))
		b[at] = 1
		decodeRefused(t, fmt.Sprint("byte ", at, " of inode 0"), b)
	}
}

func TestTablesThatAreTooLong(t *testing.T) {
	for _, last := range []int{1001, 1002, 1500, 5000} {
		encodeRefused(t, fmt.Sprint("inode ", last, " alone"), inodesAt(last+1, last))
		encodeRefused(t, fmt.Sprint("inode ", last, " and free ones behind it"), inodesAt(last+100, 1, last))
		encodeRefused(t, fmt.Sprint("all up to ", last), upTo(last, last+1))
	}
	whole, _ := impl.EncodeTable(upTo(1000, 1001))
	decodeRefused(t, "1002 inodes", append(bytes.Clone(whole), plainInode(fileInode(9))...))
	decodeRefused(t, "1002 inodes, the last free", append(bytes.Clone(whole), make([]byte, 128)...))
	decodeRefused(t, "1002 free inodes", make([]byte, 128*1002))
	decodeRefused(t, "a million bytes", make([]byte, 1<<20))
	one, _ := impl.EncodeTable(upTo(1000, 1001))
	decodeRefused(t, "twice the table", append(one, whole...))
}

func TestTablesCutShortOrWithBytesBehind(t *testing.T) {
	for _, list := range [][]impl.Inode{inodesAt(2), inodesAt(2, 1), inodesAt(3, 2), inodesAt(6, 1, 3, 5), inodesAt(5, 4)} {
		whole, _ := impl.EncodeTable(list)
		for n := range len(whole) {
			if last := n/128 - 1; n%128 == 0 && n >= 256 && (n == 256 || list[last] != impl.Inode{}) {
				back, code := impl.DecodeTable(whole[:n])
				if code != impl.OK || !slices.Equal(back, list[:last+1]) {
					t.Errorf("%d inodes cut to %d: code %d", len(list), last+1, code)
				}
				continue
			}
			decodeRefused(t, fmt.Sprintf("%d inodes cut to %d bytes", len(list), n), whole[:n])
		}
		for n := 1; n < 400; n++ {
			for _, filling := range []byte{0, 1, 255} {
				more := append(bytes.Clone(whole), bytes.Repeat([]byte{filling}, n)...)
				decodeRefused(t, fmt.Sprintf("%d inodes and %d bytes of %d", len(list), n, filling), more)
			}
		}
		more := append(bytes.Clone(whole), plainInode(fileInode(8))...)
		if back, code := impl.DecodeTable(more); code != impl.OK || !slices.Equal(back, append(slices.Clone(list), fileInode(8))) {
			t.Errorf("one inode more: code %d", code)
		}
	}
	for _, n := range []int{0, 1, 127, 128, 129, 255, 257, 383, 384, 385, 512, 128 * 1001} {
		decodeRefused(t, fmt.Sprint(n, " zeros"), make([]byte, n))
	}
	decodeRefused(t, "nil", nil)
	if list, code := impl.DecodeTable(make([]byte, 256)); code != impl.OK || !slices.Equal(list, make([]impl.Inode, 2)) {
		t.Errorf("256 zeros: %v, code %d", list, code)
	}
}

func TestDecodeTableRefusesWrongInodes(t *testing.T) {
	for _, many := range []int{2, 3, 20, 1001} {
		whole, _ := impl.EncodeTable(upTo(many-1, many))
		for _, at := range []int{1, many / 2, many - 1} {
			for _, byteAt := range []int{0, 1, 2, 3, 8, 10, 11, 23, 31, 39, 47, 103, 104, 127} {
				b := bytes.Clone(whole)
				b[128*at+byteAt] ^= 0x80
				_, alone := impl.DecodeInode(b[128*at : 128*at+128])
				list, code := impl.DecodeTable(b)
				if code != alone || code == impl.OK && len(list) != many {
					t.Errorf("byte %d of inode %d of %d: code %d, the inode's %d", byteAt, at, many, code, alone)
				}
				if alone != impl.OK {
					decodeRefused(t, fmt.Sprintf("byte %d of inode %d of %d", byteAt, at, many), b)
				}
			}
		}
	}
}

// What is read of any bytes is laid down as just these bytes.
func TestDecodeTableAcceptsOnlyWhatIsLaidDown(t *testing.T) {
	whole, _ := impl.EncodeTable(inodesAt(5, 1, 2, 4))
	refused := 0
	for at := range whole {
		for bit := range 8 {
			b := bytes.Clone(whole)
			b[at] ^= 1 << bit
			list, code := impl.DecodeTable(b)
			if code != impl.OK {
				refused++
				decodeRefused(t, fmt.Sprintf("bit %d of byte %d", bit, at), b)
				continue
			}
			if again, code := impl.EncodeTable(list); code != impl.OK || !bytes.Equal(again, b) {
				t.Errorf("bit %d of byte %d: code %d, and other bytes", bit, at, code)
			}
		}
	}
	if refused < 128*8*2 || refused == len(whole)*8 {
		t.Errorf("%d of %d changes are refused", refused, len(whole)*8)
	}
}

func TestTablesAtRandom(t *testing.T) {
	random := rand.New(rand.NewSource(61))
	for round := range 300 {
		many := random.Intn(30)
		if round%10 == 0 {
			many = random.Intn(1400)
		}
		list, last := make([]impl.Inode, many), 1
		for at := 1; at < min(many, 1001); at++ {
			if random.Intn(3) == 0 {
				list[at] = []impl.Inode{rootInode(), fileInode(1 + random.Intn(1<<30)), linkInode()}[random.Intn(3)]
				last = max(last, at)
			}
		}
		b := laysDown(t, fmt.Sprint("round ", round), list, last)
		if low := impl.LowestInode(list); low != 0 {
			put := append(slices.Clone(list), make([]impl.Inode, max(0, low+1-many))...)
			if put[low] != (impl.Inode{}) {
				t.Errorf("round %d: %d isn't free", round, low)
			}
			put[low] = fileInode(4)
			laysDown(t, fmt.Sprint("round ", round, ", one more"), put, max(last, low))
		}
		if again, _ := impl.EncodeTable(list); !bytes.Equal(again, b) {
			t.Errorf("round %d: two answers", round)
		}
	}
}

func TestLowestInode(t *testing.T) {
	// Only the Kind counts, whatever the inodes are else.
	busy := func(many int, free ...int) []impl.Inode {
		list := make([]impl.Inode, many)
		for at := range list {
			list[at] = impl.Inode{Kind: []int{1, 2, 3, -1, 4, math.MaxInt, math.MinInt, 256}[at%8]}
		}
		for _, at := range free {
			list[at] = impl.Inode{Links: 3, Gen: 9}
		}
		return list
	}
	for _, c := range []struct {
		name string
		list []impl.Inode
		want int
	}{
		{"nil", nil, 2},
		{"one inode", busy(1), 2},
		{"two inodes", busy(2), 2},
		{"two free ones", busy(2, 0, 1), 2},
		{"three inodes", busy(3), 3},
		{"2 is free", busy(3, 2), 2},
		{"0, 1 and 2 are free", busy(4, 0, 1, 2), 2},
		{"0 and 1 are free", busy(4, 0, 1), 4},
		{"two in the middle", busy(50, 40, 20), 20},
		{"the last", busy(50, 49), 49},
		{"behind the list", busy(50), 50},
		{"999", busy(999), 999},
		{"MaxInodes is lacking", busy(1000), 1000},
		{"MaxInodes is free", busy(1001, 1000), 1000},
		{"full", busy(1001), 0},
		{"full, 0 and 1 free", busy(1001, 0, 1), 0},
		{"free behind MaxInodes", busy(1200, 1001, 1002, 1199), 0},
		{"2 in a long list", busy(1200, 2, 1100), 2},
		{"all zero", make([]impl.Inode, 3000), 2},
		{"right inodes", inodesAt(9, 1, 2, 3, 5, 8), 4},
		{"right inodes, all up to MaxInodes", upTo(1000, 1001), 0},
	} {
		before := slices.Clone(c.list)
		if got := impl.LowestInode(c.list); got != c.want {
			t.Errorf("%s: %d, want %d", c.name, got, c.want)
		}
		if !slices.Equal(c.list, before) {
			t.Errorf("%s: the argument has been changed", c.name)
		}
	}
	for at := 2; at <= impl.MaxInodes; at++ {
		if got := impl.LowestInode(busy(1001, at, impl.MaxInodes)); got != at {
			t.Errorf("%d is free: %d", at, got)
		}
	}
}
