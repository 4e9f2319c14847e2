package tests

import (
	"bytes"
	"encoding/binary"
	"fmt"
	"maps"
	"math"
	"math/rand"
	"slices"
	"testing"

	"loop.example/s02533/impl"
)

const (
	blockBytes = impl.BlockSize
	mostData   = impl.MaxFile / impl.BlockSize
)

// edgeSizes are those at which a tree changes its shape.
var edgeSizes = []int{0, 1, 511, 512, 513, 11 * 512, 12*512 - 1, 12 * 512, 12*512 + 1, 13 * 512, 139 * 512, 140*512 - 1,
	140 * 512, 140*512 + 1, 141 * 512, 267 * 512, 268*512 - 1, 268 * 512, 268*512 + 1, 396 * 512, 396*512 + 1, impl.MaxFile - 1, impl.MaxFile}

func wordAt(image []byte, block, word int) int {
	return int(binary.LittleEndian.Uint32(image[block*blockBytes+4*word:]))
}

func putWord(image []byte, block, word, n int) { put32(image, block*blockBytes+4*word, n) }

func fillBlock(image []byte, block int, c byte) {
	copy(image[block*blockBytes:(block+1)*blockBytes], filled(c))
}

// plainTree is a tree told by its data blocks and its pointer blocks; below are
// those that hang at a word of Double.
type plainTree struct {
	data, below    map[int]int
	single, double int
	order          []int
	wrong          bool
}

func (p *plainTree) look(image []byte, pointer int) bool {
	if pointer == 1 || pointer >= len(image)/blockBytes {
		p.wrong = true
	}
	return pointer != 0 && !p.wrong
}

// plainOpen reads a right root as chapter 4 says, index by index.
func plainOpen(image []byte, r impl.Root) plainTree {
	p := plainTree{data: map[int]int{}, below: map[int]int{}}
	end := (r.Size + blockBytes - 1) / blockBytes
	hang := func(index, pointer int) {
		if p.look(image, pointer) {
			p.data[index] = pointer
			p.order = append(p.order, pointer)
		}
	}
	for i, pointer := range r.Direct {
		hang(i, pointer)
	}
	if p.look(image, r.Single) {
		p.single = r.Single
		p.order = append(p.order, r.Single)
		for i := 12; i < min(end, 140); i++ {
			hang(i, wordAt(image, r.Single, i-12))
		}
	}
	if p.look(image, r.Double) {
		p.double = r.Double
		p.order = append(p.order, r.Double)
		for i := 140; i < end; i++ {
			outer := (i - 140) / 128
			if i == 140+128*outer {
				if pointer := wordAt(image, r.Double, outer); p.look(image, pointer) {
					p.below[outer] = pointer
					p.order = append(p.order, pointer)
				}
			}
			if pointer := p.below[outer]; pointer != 0 && !p.wrong {
				hang(i, wordAt(image, pointer, (i-140)%128))
			}
		}
	}
	return p
}

func plainRead(image []byte, r impl.Root) ([]byte, []int, int) {
	p := plainOpen(image, r)
	if p.wrong {
		return nil, nil, impl.ErrCorrupt
	}
	var content []byte
	for i := range (r.Size + blockBytes - 1) / blockBytes {
		if b := p.data[i]; b != 0 {
			content = append(content, image[b*blockBytes:(b+1)*blockBytes]...)
		} else {
			content = append(content, make([]byte, blockBytes)...)
		}
	}
	return content[:r.Size], p.order, impl.OK
}

// plainRenew writes a tree by the letter of chapter 4, with whatever numbers.
// (ref and image are right.)
func plainRenew(image []byte, ref impl.Root, content []byte, free []int) (impl.Root, []impl.Put, int) {
	if len(content) > impl.MaxFile {
		return impl.Root{}, nil, impl.ErrFbig
	}
	old := plainOpen(image, ref)
	if old.wrong {
		return impl.Root{}, nil, impl.ErrCorrupt
	}
	var puts []impl.Put
	code := impl.OK
	fresh := func(data []byte) int {
		if len(puts) >= len(free) {
			code = impl.ErrNoSpace
			return 0
		}
		n := free[len(puts)]
		puts = append(puts, impl.Put{Block: n, Data: data})
		return n
	}
	data := make([]int, mostData+128)
	for i := 0; i*blockBytes < len(content); i++ {
		b := make([]byte, blockBytes)
		copy(b, content[i*blockBytes:])
		if o := old.data[i]; bytes.Equal(b, make([]byte, blockBytes)) {
			continue
		} else if o != 0 && bytes.Equal(b, image[o*blockBytes:(o+1)*blockBytes]) {
			data[i] = o
		} else {
			data[i] = fresh(b)
		}
	}
	pointer := func(words []int, o int) int {
		b := make([]byte, blockBytes)
		zero, same := true, o != 0
		for k, n := range words {
			put32(b, 4*k, n)
			zero = zero && n == 0
			same = same && n == wordAt(image, o, k)
		}
		if zero {
			return 0
		}
		if same {
			return o
		}
		return fresh(b)
	}
	r := impl.Root{Size: len(content)}
	copy(r.Direct[:], data)
	r.Single = pointer(data[12:140], old.single)
	outer := make([]int, 128)
	for k := range 3 {
		outer[k] = pointer(data[140+128*k:268+128*k], old.below[k])
	}
	r.Double = pointer(outer, old.double)
	if code != impl.OK {
		return impl.Root{}, nil, code
	}
	return r, puts, impl.OK
}

// plainWrite looks at the numbers too.
func plainWrite(image []byte, ref impl.Root, content []byte, free []int) (impl.Root, []impl.Put, int) {
	r, puts, code := plainRenew(image, ref, content, free)
	for _, p := range puts {
		if p.Block < 2 || p.Block >= len(image)/blockBytes {
			return impl.Root{}, nil, impl.ErrRange
		}
	}
	return r, puts, code
}

func samePuts(a, b []impl.Put) bool {
	return slices.EqualFunc(a, b, func(x, y impl.Put) bool {
		return x.Block == y.Block && bytes.Equal(x.Data, y.Data)
	})
}

// putDown is the image with the blocks written to it.
func putDown(image []byte, puts []impl.Put) []byte {
	image = bytes.Clone(image)
	for _, p := range puts {
		copy(image[p.Block*blockBytes:(p.Block+1)*blockBytes], p.Data)
	}
	return image
}

// readsAs asks for the same answers of reading as the plain ones.
func readsAs(t *testing.T, name string, image []byte, r impl.Root, content []byte, list []int, code int) {
	t.Helper()
	before := bytes.Clone(image)
	gotContent, gotCode := impl.TreeRead(image, r)
	if gotCode != code || !bytes.Equal(gotContent, content) {
		t.Errorf("%s: TreeRead: %d bytes, code %d, want %d bytes, code %d", name, len(gotContent), gotCode, len(content), code)
	}
	gotList, gotCode := impl.TreeBlocks(image, r)
	if gotCode != code || !slices.Equal(gotList, list) {
		t.Errorf("%s: TreeBlocks: %v, code %d, want %v, code %d", name, gotList, gotCode, list, code)
	}
	clear(gotContent)
	if !bytes.Equal(image, before) {
		t.Errorf("%s: reading has changed the image, or shares its memory", name)
	}
}

func readsPlainly(t *testing.T, name string, image []byte, r impl.Root) int {
	t.Helper()
	content, list, code := plainRead(image, r)
	readsAs(t, name, image, r, content, list, code)
	return code
}

// writesPlainly writes, and asks for the answer of the plain rule.
func writesPlainly(t *testing.T, name string, image []byte, ref impl.Root, content []byte, free []int) (impl.Root, []impl.Put, int) {
	t.Helper()
	image0, content0, free0 := bytes.Clone(image), bytes.Clone(content), slices.Clone(free)
	r, puts, code := impl.TreeWrite(image, ref, content, free)
	wantRoot, wantPuts, wantCode := plainWrite(image0, ref, content0, free0)
	if r != wantRoot || code != wantCode || !samePuts(puts, wantPuts) {
		t.Errorf("%s: TreeWrite: %v, %d blocks, code %d, want %v, %d blocks, code %d", name, r, len(puts), code, wantRoot, len(wantPuts), wantCode)
	}
	for _, p := range puts {
		clear(p.Data)
	}
	if !bytes.Equal(image, image0) || !bytes.Equal(content, content0) || !slices.Equal(free, free0) {
		t.Errorf("%s: TreeWrite has changed an argument, or shares its memory", name)
	}
	return wantRoot, wantPuts, wantCode
}

func needs(t *testing.T, name string, image []byte, ref impl.Root, content []byte, fresh, all, code int) {
	t.Helper()
	gotFresh, gotAll, gotCode := impl.TreeNeed(image, ref, content)
	if gotFresh != fresh || gotAll != all || gotCode != code {
		t.Errorf("%s: TreeNeed: %d, %d, code %d, want %d, %d, code %d", name, gotFresh, gotAll, gotCode, fresh, all, code)
	}
}

func TestEachIndexHasItsPlace(t *testing.T) {
	seen := map[impl.Place]int{}
	for i := range mostData {
		p, code := impl.PlaceOf(i)
		if code != impl.OK {
			t.Fatalf("%d: code %d", i, code)
		}
		if other, twice := seen[p]; twice {
			t.Errorf("%d: the place of %d, %v", i, other, p)
		}
		seen[p] = i
		index, right := p.Inner, p.Inner < 12 && p.Outer == 0
		switch p.Level {
		case 1:
			index, right = 12+p.Inner, p.Inner < 128 && p.Outer == 0
		case 2:
			index, right = 140+128*p.Outer+p.Inner, p.Inner < 128 && p.Outer < 128
		}
		if index != i || !right || p.Level < 0 || p.Level > 2 || p.Inner < 0 || p.Outer < 0 {
			t.Errorf("%d: %v", i, p)
		}
	}
	for _, i := range []int{math.MinInt, -129, -1, mostData, mostData + 1, math.MaxInt} {
		if p, code := impl.PlaceOf(i); code != impl.ErrRange || p != (impl.Place{}) {
			t.Errorf("%d: %v, code %d", i, p, code)
		}
	}
}

// A whole tree: 12 data blocks at Direct, Single at 30 with words to 40 and on,
// Double at 31, pointer blocks below it at 32 to 34. The data blocks are all
// among 40 to 63, so that blocks hang more than once.
func wholeTree(size int) ([]byte, impl.Root) {
	image := blank(blocks)
	for b := 40; b < blocks; b++ {
		fillBlock(image, b, byte(b))
	}
	r := impl.Root{Size: size}
	end := (size + blockBytes - 1) / blockBytes
	for i := range end {
		b := 40 + i%24
		switch {
		case i < 12:
			r.Direct[i] = b
		case i < 140:
			r.Single = 30
			putWord(image, 30, i-12, b)
		default:
			r.Double = 31
			putWord(image, 31, (i-140)/128, 32+(i-140)/128)
			putWord(image, 32+(i-140)/128, (i-140)%128, b)
		}
	}
	return image, r
}

func TestWholeTreesAreRead(t *testing.T) {
	for _, size := range edgeSizes {
		image, r := wholeTree(size)
		want := make([]byte, size)
		for k := range want {
			want[k] = byte(40 + k/blockBytes%24)
		}
		if content, code := impl.TreeRead(image, r); code != impl.OK || !bytes.Equal(content, want) {
			t.Errorf("%d bytes: %d read, code %d", size, len(content), code)
		}
		if code := readsPlainly(t, fmt.Sprint(size, " bytes"), image, r); code != impl.OK {
			t.Errorf("%d bytes: code %d", size, code)
		}
	}
}

func TestHolesAtEveryLevel(t *testing.T) {
	for _, size := range edgeSizes {
		image, r := wholeTree(size)
		for _, hole := range []func(image []byte, r *impl.Root){
			func(_ []byte, r *impl.Root) { r.Direct[0] = 0 },
			func(_ []byte, r *impl.Root) { r.Direct[11] = 0 },
			func(_ []byte, r *impl.Root) { r.Single = 0 },
			func(image []byte, _ *impl.Root) { putWord(image, 30, 0, 0) },
			func(image []byte, _ *impl.Root) { putWord(image, 30, 127, 0) },
			func(_ []byte, r *impl.Root) { r.Double = 0 },
			func(image []byte, _ *impl.Root) { putWord(image, 31, 0, 0) },
			func(image []byte, _ *impl.Root) { putWord(image, 31, 2, 0) },
			func(image []byte, _ *impl.Root) { putWord(image, 32, 0, 0) },
			func(image []byte, _ *impl.Root) { putWord(image, 34, 115, 0) },
			func(_ []byte, r *impl.Root) { *r = impl.Root{Size: r.Size} },
		} {
			image, r := bytes.Clone(image), r
			hole(image, &r)
			if code := readsPlainly(t, fmt.Sprint(size, " bytes with a hole"), image, r); code != impl.OK {
				t.Errorf("%d bytes with a hole: code %d", size, code)
			}
		}
	}
}

// A pointer that is no block of the image is found wherever it belongs to a
// data block, and nowhere else.
func TestWrongPointers(t *testing.T) {
	for _, size := range edgeSizes {
		image, r := wholeTree(size)
		end := (size + blockBytes - 1) / blockBytes
		for _, wrong := range []int{1, blocks, blocks + 1, impl.MaxBlocks - 1, impl.MaxBlocks, 1 << 31, math.MaxUint32} {
			for _, at := range []struct{ block, word, first int }{{30, 0, 12}, {30, 1, 13}, {30, 127, 139}, {31, 0, 140}, {31, 1, 268}, {31, 2, 396}, {31, 3, 524}, {31, 127, 16396},
				{32, 0, 140}, {32, 1, 141}, {32, 127, 267}, {33, 0, 268}, {33, 127, 395}, {34, 0, 396}, {34, 115, 511}, {34, 116, 512}, {34, 127, 523}} {
				image := bytes.Clone(image)
				putWord(image, at.block, at.word, wrong)
				want := impl.OK
				if at.first < end {
					want = impl.ErrCorrupt
				}
				name := fmt.Sprint(size, " bytes, ", wrong, " at word ", at.word, " of ", at.block)
				if code := readsPlainly(t, name, image, r); code != want {
					t.Errorf("%s: code %d", name, code)
				}
				fresh, all, code := impl.TreeNeed(image, r, nil)
				if code != want || fresh != 0 || all != 0 {
					t.Errorf("%s: TreeNeed: %d, %d, code %d", name, fresh, all, code)
				}
				if code := writeCode(t, image, r, nil, nil); code != want {
					t.Errorf("%s: TreeWrite: code %d", name, code)
				}
			}
		}
	}
}

// writeCode is TreeWrite's code; behind a fault nothing else may be told.
func writeCode(t *testing.T, image []byte, ref impl.Root, content []byte, free []int) int {
	t.Helper()
	r, puts, code := impl.TreeWrite(image, ref, content, free)
	if code != impl.OK && (r != impl.Root{} || len(puts) != 0) {
		t.Errorf("TreeWrite: code %d, but %v and %d blocks", code, r, len(puts))
	}
	return code
}

// refuses asks all four functions for the code.
func refuses(t *testing.T, name string, image []byte, r impl.Root, code int) {
	t.Helper()
	readsAs(t, name, image, r, nil, nil, code)
	needs(t, name, image, r, []byte{1}, 0, 0, code)
	if got := writeCode(t, image, r, []byte{1}, []int{9}); got != code {
		t.Errorf("%s: TreeWrite: code %d, want %d", name, got, code)
	}
}

func TestTreesOfWrongImages(t *testing.T) {
	for _, size := range []int{0, 1, blockBytes, 63 * blockBytes, 64*blockBytes - 1, 64*blockBytes + 1, 2048*blockBytes + 1, 2049 * blockBytes} {
		refuses(t, fmt.Sprint("an image of ", size), make([]byte, size), impl.Root{}, impl.ErrInval)
		refuses(t, fmt.Sprint("an image of ", size, ", a wrong pointer"), make([]byte, size), impl.Root{Size: 512, Direct: [12]int{2000}}, impl.ErrInval)
	}
	for _, n := range []int{64, 65, 2047, 2048} {
		image := blank(n)
		fillBlock(image, n-1, 7)
		readsAs(t, fmt.Sprint(n, " blocks"), image, impl.Root{Size: 3, Direct: [12]int{n - 1}}, []byte{7, 7, 7}, []int{n - 1}, impl.OK)
		if n < 2048 {
			refuses(t, fmt.Sprint(n, " blocks"), image, impl.Root{Size: 3, Direct: [12]int{n}}, impl.ErrCorrupt)
		}
	}
}

func TestTreesOfWrongRoots(t *testing.T) {
	image := blank(blocks)
	full := impl.Root{Size: impl.MaxFile, Direct: [12]int{2, 3, 4, 5, 6, 7, 8, 9, 10, 11, 12, 13}, Single: 14, Double: 15}
	for _, p := range []int{math.MinInt, -1, 1, impl.MaxBlocks, math.MaxUint32 + 3, math.MaxInt} {
		for i := range 14 {
			r := full
			*pointerOf(&r, i) = p
			refuses(t, fmt.Sprint(p, " at pointer ", i), image, r, impl.ErrInval)
			*pointerOf(&r, (i+1)%14) = blocks
			refuses(t, fmt.Sprint(p, " at pointer ", i, " and another fault"), image, r, impl.ErrInval)
		}
	}
	for i := range 14 {
		for _, p := range []int{blocks, blocks + 1, impl.MaxBlocks - 1} {
			r := full
			*pointerOf(&r, i) = p
			refuses(t, fmt.Sprint(p, " at pointer ", i), image, r, impl.ErrCorrupt)
		}
	}
	for _, size := range []int{math.MinInt, -512, -1, impl.MaxFile + 1, math.MaxInt} {
		refuses(t, fmt.Sprint("Size ", size), image, impl.Root{Size: size}, impl.ErrInval)
	}
	for _, r := range []impl.Root{
		{Direct: [12]int{2}}, {Size: 512, Direct: [12]int{2, 3}}, {Size: 11 * 512, Direct: [12]int{11: 2}},
		{Size: 12 * 512, Single: 2}, {Size: 140 * 512, Double: 2}, {Single: 2}, {Double: 2}} {
		refuses(t, fmt.Sprint("too many pointers: ", r), image, r, impl.ErrInval)
	}
}

func pointerOf(r *impl.Root, i int) *int {
	switch i {
	case 12:
		return &r.Single
	case 13:
		return &r.Double
	}
	return &r.Direct[i]
}

// At images of any words and roots of any pointers reading is by the plain rule.
func TestReadingAtRandom(t *testing.T) {
	t.Parallel()
	random := rand.New(rand.NewSource(3))
	codes := map[int]int{}
	for round := range 600 {
		n := []int{64, 65, 300, 2048}[random.Intn(4)]
		image := blank(n)
		// The rarer the holes and the wrong pointers, the further reading goes.
		wrong, hole := []int{0, 2, 300, 3000}[random.Intn(4)], 1+random.Intn(9)
		pointer := func() int {
			if wrong > 0 && random.Intn(wrong) == 0 {
				return []int{1, n, n + 1, math.MaxUint32}[random.Intn(4)]
			}
			if random.Intn(hole) == 0 {
				return 0
			}
			return 2 + random.Intn(n-2)
		}
		for at := 0; at < len(image); at += 4 {
			put32(image, at, pointer())
		}
		size := edgeSizes[random.Intn(len(edgeSizes))]
		if random.Intn(2) == 0 {
			size = random.Intn(impl.MaxFile + 1)
		}
		r := impl.Root{Size: size}
		end := (size + blockBytes - 1) / blockBytes
		for i := range 14 {
			if p := pointer(); p != 1 && p < impl.MaxBlocks && (i < 12 && i < end || i == 12 && end > 12 || i == 13 && end > 140) {
				*pointerOf(&r, i) = p
			}
		}
		codes[readsPlainly(t, fmt.Sprint("round ", round), image, r)]++
	}
	if codes[impl.OK] < 100 || codes[impl.ErrCorrupt] < 100 {
		t.Errorf("too few of a kind: %v", codes)
	}
}

func TestWorkedExamplesOfTrees(t *testing.T) {
	image := blank(blocks)
	content := append(append(filled('A'), filled(0)...), "BBBBBBBBBB"...)
	needs(t, "three data blocks", image, impl.Root{}, content, 2, 2, impl.OK)
	r, puts, _ := writesPlainly(t, "three data blocks", image, impl.Root{}, content, []int{20, 21, 22})
	if r != (impl.Root{Size: 1034, Direct: [12]int{20, 0, 21}}) || len(puts) != 2 || puts[0].Block != 20 || puts[1].Block != 21 {
		t.Errorf("three data blocks: %v, %v", r, puts)
	}
	image = putDown(image, puts)
	content[1030] = 'C'
	needs(t, "a C", image, r, content, 1, 2, impl.OK)
	if r, puts, _ := writesPlainly(t, "a C", image, r, content, []int{30}); r.Direct != [12]int{20, 0, 30} || len(puts) != 1 {
		t.Errorf("a C: %v, %v", r, puts)
	}

	content = make([]byte, 140*512+1)
	content[0], content[12*512], content[140*512] = 1, 1, 1
	needs(t, "far", image, impl.Root{}, content, 6, 6, impl.OK)
	r, puts, _ = writesPlainly(t, "far", image, impl.Root{}, content, []int{10, 11, 12, 13, 14, 15, 16})
	if r != (impl.Root{Size: len(content), Direct: [12]int{10}, Single: 13, Double: 15}) || len(puts) != 6 {
		t.Errorf("far: %v, %d blocks", r, len(puts))
	}
	image = putDown(image, puts)
	readsAs(t, "far", image, r, content, []int{10, 13, 11, 15, 14, 12}, impl.OK)
	needs(t, "cut", image, r, content[:12*512+1], 0, 3, impl.OK)
	if r, puts, _ := writesPlainly(t, "cut", image, r, content[:12*512+1], nil); r != (impl.Root{Size: 12*512 + 1, Direct: [12]int{10}, Single: 13}) || len(puts) != 0 {
		t.Errorf("cut: %v, %d blocks", r, len(puts))
	}
}

// patches are bytes of which about one block in many isn't zeros.
func patches(random *rand.Rand, size, many int) []byte {
	content := make([]byte, size)
	for at := 0; at < size; at += blockBytes {
		if random.Intn(many) == 0 {
			content[at+random.Intn(min(blockBytes, size-at))] = byte(1 + random.Intn(3))
		}
	}
	return content
}

func someSize(random *rand.Rand) int {
	if random.Intn(2) == 0 {
		return edgeSizes[random.Intn(len(edgeSizes))]
	}
	return random.Intn(impl.MaxFile + 1)
}

// freeOf are all the numbers that no pointer of the tree is, in any order.
func freeOf(random *rand.Rand, image []byte, r impl.Root) []int {
	used := plainOpen(image, r).order
	var free []int
	for _, i := range random.Perm(len(image)/blockBytes - 2) {
		if !slices.Contains(used, i+2) {
			free = append(free, i+2)
		}
	}
	return free
}

// Trees written one against the other, in each the content of the one before
// with some blocks changed and another size.
func TestWritingAtRandom(t *testing.T) {
	random := rand.New(rand.NewSource(4))
	for chain := range 40 {
		image := blank([]int{700, 1200, 2048}[random.Intn(3)])
		var r impl.Root
		var content []byte
		for step := range 12 {
			name := fmt.Sprint("chain ", chain, ", step ", step)
			next := patches(random, someSize(random), 1+random.Intn(30))
			if random.Intn(5) > 0 {
				copy(next, content)
				for range random.Intn(4) {
					if len(next) > 0 {
						next[random.Intn(len(next))] ^= byte(1 + random.Intn(3))
					}
				}
			}
			free := freeOf(random, image, r)
			fresh, all, code := impl.TreeNeed(image, r, next)
			if code != impl.OK || fresh > len(free) {
				t.Fatalf("%s: TreeNeed: %d, %d, code %d", name, fresh, all, code)
			}
			// Just long enough, with a number behind it that can't be used.
			made, puts, code := writesPlainly(t, name, image, r, next, append(free[:fresh:fresh], -1))
			if code != impl.OK || len(puts) != fresh {
				t.Fatalf("%s: %d blocks, code %d, TreeNeed tells %d", name, len(puts), code, fresh)
			}
			if fresh > 0 {
				if code := writeCode(t, image, r, next, free[:fresh-1]); code != impl.ErrNoSpace {
					t.Errorf("%s: one too few: code %d", name, code)
				}
			}
			image, r, content = putDown(image, puts), made, next
			list, _ := impl.TreeBlocks(image, r)
			if len(list) != all {
				t.Errorf("%s: TreeNeed tells %d blocks, there are %d", name, all, len(list))
			}
			readsAs(t, name, image, r, content, list, impl.OK)
			needs(t, name+", again", image, r, content, 0, all, impl.OK)
			if again, puts, code := writesPlainly(t, name+", again", image, r, content, nil); again != r || len(puts) != 0 || code != impl.OK {
				t.Errorf("%s, again: %v, %d blocks, code %d", name, again, len(puts), code)
			}
		}
	}
}

// The plain rule holds too where the reference is made by hand and the numbers
// of free are any.
func TestWritingAgainstAnythingAtRandom(t *testing.T) {
	random := rand.New(rand.NewSource(5))
	codes, fewer := map[int]int{}, 0
	for round := range 2000 {
		image := blank(blocks)
		for b := 2; b < blocks; b++ {
			if random.Intn(3) > 0 {
				for range 1 + random.Intn(3) {
					putWord(image, b, random.Intn(4), []int{random.Intn(blocks), random.Intn(blocks), random.Intn(2) * blocks}[random.Intn(3)])
				}
			}
		}
		end := []int{3, 12, 13, 16, 20, 140, 141, 144, 268, 269, 270, 400}[random.Intn(12)]
		ref := impl.Root{Size: end*blockBytes - random.Intn(2)*random.Intn(blockBytes)}
		for i := range 14 {
			if i < 12 && i < end || i == 12 && end > 12 || i == 13 && end > 140 {
				*pointerOf(&ref, i) = []int{0, 2 + random.Intn(blocks-2)}[random.Intn(2)]
			}
		}
		content, list, code := plainRead(image, ref)
		if code != impl.OK {
			content = make([]byte, ref.Size)
		}
		if random.Intn(3) == 0 {
			content = append(content, make([]byte, random.Intn(20*blockBytes))...)
		}
		var free []int
		hanging := plainOpen(image, ref).data
		for _, i := range slices.Sorted(maps.Keys(hanging)) {
			if at := i * blockBytes; at < len(content) && random.Intn(3) == 0 {
				content[at] ^= 1
				// The number that stood there makes a pointer block the same again.
				if random.Intn(4) > 0 {
					free = append(free, hanging[i])
				}
			}
		}
		for range random.Intn(12) {
			free = append(free, random.Intn(blocks+20))
			if len(list) > 0 && random.Intn(3) == 0 {
				free[len(free)-1] = list[random.Intn(len(list))]
			}
		}
		_, puts, code := writesPlainly(t, fmt.Sprint("round ", round), image, ref, content, free)
		codes[code]++
		if fresh, _, _ := impl.TreeNeed(image, ref, content); code == impl.OK && fresh > len(puts) {
			fewer++
		}
	}
	if fewer < 5 {
		t.Errorf("numbers that are pointers of the reference made a block the same only %d times", fewer)
	}
	for _, code := range []int{impl.OK, impl.ErrCorrupt, impl.ErrNoSpace, impl.ErrRange} {
		if codes[code] < 50 {
			t.Errorf("code %d only %d times", code, codes[code])
		}
	}
}

// Every block of the content is fresh: 512 data blocks, Single, three below
// Double, Double.
func TestTheLongestFile(t *testing.T) {
	image := blank(600)
	content := bytes.Repeat([]byte{9}, impl.MaxFile)
	free := make([]int, 517)
	for i := range free {
		free[i] = 599 - i
	}
	needs(t, "the longest file", image, impl.Root{}, content, 517, 517, impl.OK)
	r, puts, code := writesPlainly(t, "the longest file", image, impl.Root{}, content, free)
	if code != impl.OK || len(puts) != 517 || r.Single != free[512] || r.Double != free[516] || r.Direct[11] != free[11] {
		t.Fatalf("%v, %d blocks, code %d", r, len(puts), code)
	}
	image = putDown(image, puts)
	if list, _ := impl.TreeBlocks(image, r); len(list) != 517 || list[12] != free[512] || list[141] != free[516] || list[142] != free[513] {
		t.Errorf("blocks: %v", list)
	}
	readsPlainly(t, "the longest file", image, r)
	if code := writeCode(t, image, r, append(content, 0), free); code != impl.ErrFbig {
		t.Errorf("one byte more: code %d", code)
	}
	needs(t, "one byte more", image, r, append(content, 0), 0, 0, impl.ErrFbig)
	if code := writeCode(t, image, impl.Root{}, content, free[1:]); code != impl.ErrNoSpace {
		t.Errorf("one number too few: code %d", code)
	}
	// All zeros: a file without a block.
	needs(t, "zeros", image, r, make([]byte, impl.MaxFile), 0, 0, impl.OK)
	if r, puts, code := writesPlainly(t, "zeros", image, r, make([]byte, impl.MaxFile), nil); code != impl.OK || len(puts) != 0 || r != (impl.Root{Size: impl.MaxFile}) {
		t.Errorf("zeros: %v, %d blocks, code %d", r, len(puts), code)
	}
	// No bytes: an empty root.
	needs(t, "no bytes", image, r, nil, 0, 0, impl.OK)
	if r, puts, code := writesPlainly(t, "no bytes", image, r, nil, nil); code != impl.OK || len(puts) != 0 || r != (impl.Root{}) {
		t.Errorf("no bytes: %v, %d blocks, code %d", r, len(puts), code)
	}
}

// The last block is filled up with zeros, and held against the whole block of
// the reference, whatever stands behind the end there.
func TestTheLastBlockThatIsNotWhole(t *testing.T) {
	image := blank(blocks)
	fillBlock(image, 20, 'x')
	ref := impl.Root{Size: 10, Direct: [12]int{20}}
	readsAs(t, "ten bytes", image, ref, []byte("xxxxxxxxxx"), []int{20}, impl.OK)
	needs(t, "the same ten bytes", image, ref, []byte("xxxxxxxxxx"), 1, 1, impl.OK)
	if r, puts, _ := writesPlainly(t, "the same ten bytes", image, ref, []byte("xxxxxxxxxx"), []int{30}); r.Direct[0] != 30 || len(puts) != 1 || !bytes.Equal(puts[0].Data, append([]byte("xxxxxxxxxx"), make([]byte, 502)...)) {
		t.Errorf("the same ten bytes: %v, %v", r, puts)
	}
	if r, puts, _ := writesPlainly(t, "what stands there", image, ref, filled('x'), nil); r != (impl.Root{Size: 512, Direct: [12]int{20}}) || len(puts) != 0 {
		t.Errorf("what stands there: %v, %v", r, puts)
	}
	// A last block of zeros, whole or not, is a hole.
	for _, size := range []int{513, 514, 1023, 1024} {
		content := append(filled('x'), make([]byte, size-512)...)
		if r, _, _ := writesPlainly(t, "zeros at the end", image, ref, content, nil); r != (impl.Root{Size: size, Direct: [12]int{20}}) {
			t.Errorf("zeros at the end: %v", r)
		}
	}
}

// Words of the reference that belong to none of its data blocks are compared,
// though nothing hangs there.
func TestWordsThatBelongToNoDataBlock(t *testing.T) {
	image, r := wholeTree(140*512 + 1)
	content, _ := impl.TreeRead(image, r)
	needs(t, "zeros behind the end", image, r, content, 3, 144, impl.OK)
	content = append(content, bytes.Repeat([]byte{content[140*512]}, 511)...)
	needs(t, "whole", image, r, content, 0, 144, impl.OK)
	for _, c := range []struct{ block, word, fresh int }{{32, 1, 2}, {32, 127, 2}, {31, 1, 1}, {31, 127, 1}} {
		image := bytes.Clone(image)
		putWord(image, c.block, c.word, 40)
		name := fmt.Sprint("word ", c.word, " of ", c.block)
		needs(t, name, image, r, content, c.fresh, 144, impl.OK)
		writesPlainly(t, name, image, r, content, []int{3, 4, 5})
		putWord(image, c.block, c.word, math.MaxUint32)
		needs(t, name, image, r, content, c.fresh, 144, impl.OK)
		writesPlainly(t, name, image, r, content, []int{3, 4, 5})
	}

	// Behind the reference's end no data block stays, though its bytes are there.
	image, r = wholeTree(13 * 512)
	putWord(image, 30, 1, 41)
	long := append(mustRead(t, image, r), filled(41)...)
	needs(t, "behind the end", image, r, long, 2, 15, impl.OK)
	if r, _, _ := writesPlainly(t, "behind the end", image, r, long, []int{3, 4}); r.Single != 4 {
		t.Errorf("behind the end: %v", r)
	}
	// A number that is the word which stands there makes Single the same again.
	if r, puts, _ := writesPlainly(t, "behind the end, at 41", image, r, long, []int{41}); r.Single != 30 || len(puts) != 1 {
		t.Errorf("behind the end, at 41: %v, %d blocks", r, len(puts))
	}
	// TreeNeed's numbers are no word at all.
	putWord(image, 30, 1, math.MaxUint32)
	needs(t, "behind the end, a word of ones", image, r, long, 2, 15, impl.OK)

	// A pointer block behind the reference's end isn't one of its blocks.
	image, r = wholeTree(268 * 512)
	putWord(image, 31, 1, 33)
	putWord(image, 33, 0, 3)
	long = append(mustRead(t, image, r), 1)
	if r, puts, _ := writesPlainly(t, "below Double, behind the end", image, r, long, []int{3, 4, 5}); r.Double != 5 || len(puts) != 3 {
		t.Errorf("below Double, behind the end: %v, %d blocks", r, len(puts))
	}
}

// A hole of the reference is no block: what blocks 0 and 1 have is nothing that
// could stay.
func TestHolesOfTheReferenceKeepNothing(t *testing.T) {
	for b := range 2 {
		image := blank(blocks)
		fillBlock(image, b, 'z')
		fillBlock(image, 20, 'y')
		content := append(append(filled('z'), filled('y')...), filled('z')...)
		for _, ref := range []impl.Root{{}, {Size: 1536}, {Size: 1536, Direct: [12]int{0, 20}}} {
			r, puts, _ := writesPlainly(t, "data", image, ref, content, []int{30, 31, 32})
			if r.Direct[0] != 30 || len(puts) != 3-min(1, ref.Direct[1]) {
				t.Errorf("block %d, data, against %v: %v, %d blocks", b, ref, r, len(puts))
			}
		}
		// Words as those which Single, the block below Double, and Double will have.
		content = make([]byte, 140*512+1)
		content[12*512], content[140*512] = 1, 1
		for word, free := range [][]int{{40, 41, 42, 43, 44}, {41, 40, 42, 43, 44}, {41, 42, 43, 40, 44}} {
			image := blank(blocks)
			putWord(image, b, 0, 40)
			r, puts, _ := writesPlainly(t, "pointers", image, impl.Root{Size: len(content)}, content, free)
			if len(puts) != 5 || r.Single != free[2] || r.Double != 44 {
				t.Errorf("block %d, pointers, %d: %v, %d blocks", b, word, r, len(puts))
			}
		}
	}
}

func mustRead(t *testing.T, image []byte, r impl.Root) []byte {
	t.Helper()
	content, code := impl.TreeRead(image, r)
	if code != impl.OK {
		t.Fatalf("TreeRead: code %d", code)
	}
	return content
}

// Data blocks that go and leave zeros behind: pointer blocks stay as long as
// their words do.
func TestPointerBlocksThatStay(t *testing.T) {
	content := make([]byte, impl.MaxFile)
	for _, i := range []int{0, 12, 140, 268, 396} {
		content[i*512] = 1
	}
	image := blank(blocks)
	r, puts, code := writesPlainly(t, "five", image, impl.Root{}, content, []int{10, 11, 12, 13, 14, 15, 16, 17, 18, 19})
	if code != impl.OK || r != (impl.Root{Size: impl.MaxFile, Direct: [12]int{10}, Single: 15, Double: 19}) || len(puts) != 10 {
		t.Fatalf("five: %v, %d blocks, code %d", r, len(puts), code)
	}
	image = putDown(image, puts)
	for _, c := range []struct{ size, fresh, all int }{
		{396*512 + 1, 0, 10}, // all that is cut off were holes
		{396 * 512, 1, 8},    // Double alone
		{268*512 + 1, 1, 8},
		{268 * 512, 1, 6},
		{140*512 + 1, 1, 6},
		{140 * 512, 0, 3},
		{12*512 + 1, 0, 3},
		{12 * 512, 0, 1},
		{1, 0, 1},
		{0, 0, 0},
	} {
		name := fmt.Sprint("cut to ", c.size)
		needs(t, name, image, r, content[:c.size], c.fresh, c.all, impl.OK)
		cut, _, code := writesPlainly(t, name, image, r, content[:c.size], []int{30})
		if code != impl.OK || c.size > 12*512 && cut.Single != 15 || c.size > 396*512 && cut.Double != 19 {
			t.Errorf("%s: %v, code %d", name, cut, code)
		}
	}
	// One block below Double goes: its pointer block is a hole, the others stay.
	content[268*512] = 0
	needs(t, "one goes", image, r, content, 1, 8, impl.OK)
	gone, puts, _ := writesPlainly(t, "one goes", image, r, content, []int{30})
	if gone.Double != 30 || len(puts) != 1 || wordAt(puts[0].Data, 0, 1) != 0 || wordAt(puts[0].Data, 0, 2) != 18 {
		t.Errorf("one goes: %v, %v", gone, puts)
	}
}

func TestNumbersOfFree(t *testing.T) {
	image := blank(blocks)
	content := bytes.Repeat([]byte{5}, 13*512) // 13 data blocks and Single
	right := []int{2, 63, 3, 62, 4, 61, 5, 60, 6, 59, 7, 58, 8, 57}
	if _, puts, code := writesPlainly(t, "just enough", image, impl.Root{}, content, right); code != impl.OK || len(puts) != len(right) {
		t.Errorf("just enough: %d blocks, code %d", len(puts), code)
	}
	for _, wrong := range []int{math.MinInt, -1, 0, 1, blocks, blocks + 1, impl.MaxBlocks, 1 << 32, 1<<32 + 9, math.MaxInt} {
		for k := range right {
			free := slices.Clone(right)
			free[k] = wrong
			if code := writeCode(t, image, impl.Root{}, content, free); code != impl.ErrRange {
				t.Errorf("%d as number %d: code %d", wrong, k, code)
			}
			// A 0 as the only word of Single makes that a hole, which needs no number.
			want := impl.ErrNoSpace
			if wrong == 0 && k == 12 {
				want = impl.ErrRange
			}
			if code := writeCode(t, image, impl.Root{}, content, free[:13]); code != want {
				t.Errorf("%d as number %d, and one too few: code %d", wrong, k, code)
			}
		}
		if code := writeCode(t, image, impl.Root{}, content, append(slices.Clone(right), wrong)); code != impl.OK {
			t.Errorf("%d isn't used: code %d", wrong, code)
		}
	}
	for k := range right {
		if code := writeCode(t, image, impl.Root{}, content, right[:k]); code != impl.ErrNoSpace {
			t.Errorf("%d numbers: code %d", k, code)
		}
	}
	// A number whose lower 32 bits are a word of the reference, or 0, is another.
	image, ref := wholeTree(13 * 512)
	content = mustRead(t, image, ref)
	content[12*512]++
	for _, wrong := range []int{1<<32 + 52, 1 << 32, 52 - 1<<32} {
		if code := writeCode(t, image, ref, content, []int{wrong}); code != impl.ErrNoSpace {
			t.Errorf("%d, and none for Single: code %d", wrong, code)
		}
		if code := writeCode(t, image, ref, content, []int{wrong, 9}); code != impl.ErrRange {
			t.Errorf("%d: code %d", wrong, code)
		}
	}
}

// Where several faults are in one call, the first of the text is told.
func TestOrderOfFaultsOfWriting(t *testing.T) {
	long := make([]byte, impl.MaxFile+1)
	long[0] = 1
	corrupt := impl.Root{Size: 1, Direct: [12]int{blocks}}
	for _, c := range []struct {
		name    string
		image   []byte
		ref     impl.Root
		content []byte
		free    []int
		code    int
	}{
		{"image", blank(63), corrupt, long, nil, impl.ErrInval},
		{"root", blank(64), impl.Root{Size: -1}, long, nil, impl.ErrInval},
		{"long", blank(64), corrupt, long, nil, impl.ErrFbig},
		{"corrupt", blank(64), corrupt, []byte{1}, nil, impl.ErrCorrupt},
		{"corrupt, a wrong number", blank(64), corrupt, []byte{1}, []int{1}, impl.ErrCorrupt},
		{"no space", blank(64), impl.Root{}, append(filled(1), 1), []int{1}, impl.ErrNoSpace},
		{"range", blank(64), impl.Root{}, []byte{1}, []int{1}, impl.ErrRange},
		{"none", blank(64), impl.Root{}, []byte{1}, []int{2}, impl.OK},
	} {
		if code := writeCode(t, c.image, c.ref, c.content, c.free); code != c.code {
			t.Errorf("%s: TreeWrite: code %d, want %d", c.name, code, c.code)
		}
		want := c.code
		if want == impl.ErrNoSpace || want == impl.ErrRange {
			want = impl.OK
		}
		if _, _, code := impl.TreeNeed(c.image, c.ref, c.content); code != want {
			t.Errorf("%s: TreeNeed: code %d, want %d", c.name, code, want)
		}
	}
}
