package tests

import (
	"bytes"
	"fmt"
	"math"
	"math/rand"
	"slices"
	"testing"

	"loop.example/s02533/impl"
)

// edgeBlocks are numbers of blocks at which a map changes its shape.
var edgeBlocks = []int{impl.MinBlocks, 65, 127, 128, 129, 256, 257, 1408, 1409, 1535, 1536, 1537, 1664, 1665, 2047, impl.MaxBlocks}

// emptyWords is a map in which nothing but the root record is in use.
func emptyWords(n int) []int {
	words := make([]int, n)
	words[0], words[1] = 1, 1
	return words
}

// randomWords is a map in which about one word of so many is free.
func randomWords(random *rand.Rand, n, free int) []int {
	words := emptyWords(n)
	for b := 2; b < n; b++ {
		if random.Intn(free) > 0 {
			words[b] = []int{1, 2, 1 << 31, 1<<32 - 1, 1 << random.Intn(32), int(random.Uint32())}[random.Intn(6)]
		}
	}
	return words
}

type namedWords struct {
	name  string
	words []int
}

// wrongMaps are maps that no function may take.
func wrongMaps() []namedWords {
	list := []namedWords{{"nil", nil}, {"one word", []int{1}}}
	for _, n := range []int{2, 63, 2049, 4096} {
		list = append(list, namedWords{fmt.Sprint(n, " words"), emptyWords(n)})
	}
	for _, n := range []int{impl.MinBlocks, impl.MaxBlocks} {
		for _, at := range []int{0, 1, 2, n / 2, n - 1} {
			for _, bad := range []int{math.MinInt, -1 << 32, 1 - 1<<32, -1, 1 << 32, 1<<32 + 1, math.MaxInt} {
				words := emptyWords(n)
				words[at] = bad
				list = append(list, namedWords{fmt.Sprint(n, " words, ", bad, " at ", at), words})
			}
		}
		for at := range 2 {
			for _, bad := range []int{0, 2, 3, 1 << 31, 1<<31 + 1, 1<<32 - 1} {
				words := emptyWords(n)
				words[at] = bad
				list = append(list, namedWords{fmt.Sprint(n, " words, ", bad, " at ", at), words})
			}
		}
	}
	return list
}

func TestNoFunctionTakesAWrongMap(t *testing.T) {
	for _, c := range wrongMaps() {
		before := slices.Clone(c.words)
		if counts, code := impl.MapCount(c.words); code != impl.ErrInval || counts != (impl.Counts{}) {
			t.Errorf("%s: MapCount: %v, code %d", c.name, counts, code)
		}
		for _, n := range []int{0, 1, impl.MaxBlocks} {
			if list, cursor, code := impl.MapFree(c.words, 2, n); code != impl.ErrInval || len(list) != 0 || cursor != 0 {
				t.Errorf("%s: MapFree: %v, %d, code %d", c.name, list, cursor, code)
			}
		}
		for _, set := range [][]int{nil, {2}, {1}} {
			if words, code := impl.MapPlane(c.words, 0, set); code != impl.ErrInval || len(words) != 0 {
				t.Errorf("%s: MapPlane: %v, code %d", c.name, words, code)
			}
		}
		image := blank(max(impl.MinBlocks, min(impl.MaxBlocks, len(c.words))))
		for _, im := range [][]byte{image, blank(len(c.words))} {
			flushRefused(t, c.name, im, impl.Root{}, c.words, 2, impl.ErrInval)
		}
		if !slices.Equal(c.words, before) {
			t.Errorf("%s: the argument has been changed", c.name)
		}
	}
}

func TestMapCountAnswers(t *testing.T) {
	random := rand.New(rand.NewSource(11))
	for _, n := range edgeBlocks {
		for _, words := range [][]int{emptyWords(n), randomWords(random, n, 2), randomWords(random, n, 9), randomWords(random, n, 1<<20)} {
			want := impl.Counts{Blocks: n}
			for _, w := range words {
				if w != 0 {
					want.Used++
				}
				for p, bit := 0, 1; p < 32; p, bit = p+1, bit*2 {
					if w/bit%2 == 1 {
						want.Planes[p]++
					}
				}
			}
			want.Free = n - want.Used
			if got, code := impl.MapCount(words); code != impl.OK || got != want {
				t.Errorf("%d words: %v, code %d, want %v", n, got, code, want)
			}
		}
	}
	for p := range 32 {
		words := emptyWords(impl.MinBlocks)
		words[63], words[40] = 1<<p, 1<<32-1
		want := impl.Counts{Blocks: 64, Free: 60, Used: 4}
		for q := range want.Planes {
			want.Planes[q] = 1
		}
		want.Planes[0] += 2
		want.Planes[p]++
		if got, code := impl.MapCount(words); code != impl.OK || got != want {
			t.Errorf("plane %d: %v, code %d, want %v", p, got, code, want)
		}
	}
}

func TestMapReserveAnswers(t *testing.T) {
	for n := -200; n < 2500; n++ {
		want := 0
		if n >= 64 && n <= 2048 {
			want = int(math.Ceil(float64(n) / 128))
			if want > 12 {
				want++
			}
		}
		if got := impl.MapReserve(n); got != want {
			t.Errorf("%d blocks: %d, want %d", n, got, want)
		}
	}
	for n, want := range map[int]int{math.MinInt: 0, math.MinInt + 64: 0, math.MaxInt: 0, 1<<32 + 64: 0, 1<<62 + 64: 0, 1536: 12, 1537: 14, 1664: 14, 1665: 15} {
		if got := impl.MapReserve(n); got != want {
			t.Errorf("%d blocks: %d, want %d", n, got, want)
		}
	}
}

// plainFree goes through the order of MapFree as it is written.
func plainFree(words []int, cursor, n int) ([]int, int, int) {
	order := []int{}
	for b := cursor; b < len(words); b++ {
		order = append(order, b)
	}
	for b := 2; b < cursor; b++ {
		order = append(order, b)
	}
	list, last := []int{}, cursor
	for _, b := range order {
		if words[b] == 0 && len(list) < n {
			list = append(list, b)
			last = b + 1
			if b == len(words)-1 {
				last = 2
			}
		}
	}
	if len(list) < n {
		return nil, 0, impl.ErrNoSpace
	}
	return list, last, impl.OK
}

func freesPlainly(t *testing.T, words []int, cursor, n int) int {
	t.Helper()
	before := slices.Clone(words)
	list, last, code := impl.MapFree(words, cursor, n)
	wantList, wantLast, wantCode := plainFree(before, cursor, n)
	if code != wantCode || last != wantLast || !slices.Equal(list, wantList) {
		t.Errorf("%d words, cursor %d, n %d: %v, %d, code %d, want %v, %d, code %d", len(words), cursor, n, list, last, code, wantList, wantLast, wantCode)
	}
	clear(list)
	if !slices.Equal(words, before) {
		t.Errorf("%d words, cursor %d, n %d: the argument has been changed", len(words), cursor, n)
	}
	return code
}

func TestMapFreeAnswers(t *testing.T) {
	random := rand.New(rand.NewSource(12))
	for _, free := range []int{1, 2, 5, 30} {
		words := randomWords(random, impl.MinBlocks, free)
		for cursor := 2; cursor < impl.MinBlocks; cursor++ {
			for n := range impl.MinBlocks {
				freesPlainly(t, words, cursor, n)
			}
		}
	}
	for _, n := range edgeBlocks {
		for _, words := range [][]int{emptyWords(n), randomWords(random, n, 2), randomWords(random, n, 40)} {
			counts, _ := impl.MapCount(words)
			for _, cursor := range []int{2, 3, n / 2, n - 2, n - 1, 2 + random.Intn(n-2)} {
				for _, k := range []int{0, 1, 2, counts.Free - 1, counts.Free} {
					if k <= counts.Free && k >= 0 && freesPlainly(t, words, cursor, k) != impl.OK {
						t.Errorf("%d of %d free blocks are refused", k, counts.Free)
					}
				}
				for _, k := range []int{counts.Free + 1, n, 1 << 32, math.MaxInt} {
					if freesPlainly(t, words, cursor, k) != impl.ErrNoSpace {
						t.Errorf("%d of %d free blocks aren't refused", k, counts.Free)
					}
				}
			}
		}
	}
}

// All blocks of an empty map, told from each cursor, are each told once, and the
// cursor comes round to where it was.
func TestMapFreeGoesRoundTheEnd(t *testing.T) {
	words := emptyWords(impl.MinBlocks)
	for cursor := 2; cursor < impl.MinBlocks; cursor++ {
		list, last, code := impl.MapFree(words, cursor, 62)
		if code != impl.OK || len(list) != 62 || last != cursor || list[0] != cursor {
			t.Fatalf("cursor %d: %v, %d, code %d", cursor, list, last, code)
		}
		for i, b := range list {
			if want := 2 + (cursor-2+i)%62; b != want {
				t.Errorf("cursor %d: %d is %d, want %d", cursor, i, b, want)
			}
		}
	}
	for _, c := range []struct {
		free      []int
		cursor, n int
		want      []int
		last      int
	}{
		{[]int{63}, 2, 1, []int{63}, 2},
		{[]int{63}, 63, 1, []int{63}, 2},
		{[]int{62}, 63, 1, []int{62}, 63},
		{[]int{2}, 3, 1, []int{2}, 3},
		{[]int{2, 63}, 63, 2, []int{63, 2}, 3},
		{[]int{2, 63}, 2, 2, []int{2, 63}, 2},
		{[]int{2, 63}, 3, 1, []int{63}, 2},
		{[]int{10, 20, 30}, 20, 3, []int{20, 30, 10}, 11},
		{[]int{10, 20, 30}, 21, 2, []int{30, 10}, 11},
		{[]int{10, 20, 30}, 31, 0, nil, 31},
		{nil, 63, 0, nil, 63},
		{nil, 2, 0, nil, 2},
	} {
		words := emptyWords(impl.MinBlocks)
		for b := 2; b < 64; b++ {
			words[b] = 1 << 31
		}
		for _, b := range c.free {
			words[b] = 0
		}
		if list, last, code := impl.MapFree(words, c.cursor, c.n); code != impl.OK || last != c.last || !slices.Equal(list, c.want) {
			t.Errorf("%v: %v, %d, code %d", c, list, last, code)
		}
		if _, _, code := impl.MapFree(words, c.cursor, len(c.free)+1); code != impl.ErrNoSpace {
			t.Errorf("%v, and one more: code %d", c, code)
		}
	}
}

func TestMapFreeRefuses(t *testing.T) {
	full := emptyWords(impl.MinBlocks)
	for b := range full {
		full[b] = 1
	}
	for _, words := range [][]int{emptyWords(64), full, emptyWords(2048)} {
		for _, cursor := range []int{math.MinInt, -1, 0, 1, len(words), len(words) + 1, 1 << 32, 1<<32 + 2, math.MaxInt} {
			for _, n := range []int{-1, 0, 1, 3000} {
				if list, last, code := impl.MapFree(words, cursor, n); code != impl.ErrInval || len(list) != 0 || last != 0 {
					t.Errorf("cursor %d, n %d: %v, %d, code %d", cursor, n, list, last, code)
				}
			}
		}
		for _, n := range []int{math.MinInt, -1 << 32, -1} {
			if list, last, code := impl.MapFree(words, 2, n); code != impl.ErrInval || len(list) != 0 || last != 0 {
				t.Errorf("n %d: %v, %d, code %d", n, list, last, code)
			}
		}
	}
}

func planesPlainly(t *testing.T, words []int, plane int, set []int) []int {
	t.Helper()
	before, beforeSet := slices.Clone(words), slices.Clone(set)
	got, code := impl.MapPlane(words, plane, set)
	bit := int(math.Pow(2, float64(plane)))
	want := slices.Clone(words)
	for b := 2; b < len(want); b++ {
		has := want[b]/bit%2 == 1
		switch in := slices.Contains(set, b); {
		case in && !has:
			want[b] += bit
		case !in && has:
			want[b] -= bit
		}
	}
	if code != impl.OK || !slices.Equal(got, want) {
		t.Errorf("%d words, plane %d, set %v: code %d, %v, want %v", len(words), plane, set, code, got, want)
	}
	clear(got)
	if !slices.Equal(words, before) || !slices.Equal(set, beforeSet) {
		t.Errorf("plane %d: an argument has been changed, or shares its memory", plane)
	}
	return want
}

func TestMapPlaneAnswers(t *testing.T) {
	random := rand.New(rand.NewSource(13))
	for _, n := range edgeBlocks {
		for plane := range 32 {
			for _, words := range [][]int{emptyWords(n), randomWords(random, n, 3)} {
				set := []int{2, n - 1, n / 2, 2}
				for range random.Intn(20) {
					set = append(set, 2+random.Intn(n-2))
				}
				for _, s := range [][]int{nil, {2}, {n - 1}, set} {
					made := planesPlainly(t, words, plane, s)
					planesPlainly(t, made, 31-plane, s)
				}
			}
		}
	}
	// All blocks in all planes: words of ones; and none in any: as it was at first.
	words := emptyWords(impl.MinBlocks)
	all := []int{}
	for b := 2; b < 64; b++ {
		all = append(all, b)
	}
	for plane := range 32 {
		words = planesPlainly(t, words, plane, all)
	}
	if words[2] != 1<<32-1 || words[63] != 1<<32-1 || words[0] != 1 || words[1] != 1 {
		t.Errorf("all blocks in all planes: %v", words)
	}
	for plane := range 32 {
		words = planesPlainly(t, words, plane, nil)
	}
	if !slices.Equal(words, emptyWords(64)) {
		t.Errorf("no block in any plane: %v", words)
	}
}

func TestMapPlaneRefuses(t *testing.T) {
	words := emptyWords(impl.MinBlocks)
	for _, plane := range []int{math.MinInt, -64, -32, -1, 32, 33, 63, 64, 1 << 32, math.MaxInt} {
		for _, set := range [][]int{nil, {2}, {1}, {-1}} {
			if got, code := impl.MapPlane(words, plane, set); code != impl.ErrInval || len(got) != 0 {
				t.Errorf("plane %d: %v, code %d", plane, got, code)
			}
		}
	}
	for _, n := range []int{64, 65, 2048} {
		for _, bad := range []int{math.MinInt, -2, -1, 0, 1, n, n + 1, 2049, 1 << 32, 1<<32 + 2, math.MaxInt} {
			for _, plane := range []int{0, 1, 31} {
				for _, set := range [][]int{{bad}, {2, bad}, {bad, n - 1}} {
					if got, code := impl.MapPlane(emptyWords(n), plane, set); code != impl.ErrRange || len(got) != 0 {
						t.Errorf("%d words, plane %d, set %v: %v, code %d", n, plane, set, got, code)
					}
				}
			}
		}
	}
}

// plainFlush writes a map by the letter of chapter 5; it tells the number of
// passes too. (All arguments but the tree of ref are right.)
func plainFlush(image []byte, ref impl.Root, words []int, cursor int) (impl.MapOut, int, int) {
	content, _, code := plainRead(image, ref)
	if code != impl.OK {
		return impl.MapOut{}, impl.ErrCorrupt, 0
	}
	n := len(words)
	m := n / 128
	if n%128 > 0 {
		m++
	}
	tree := plainOpen(image, ref)
	was := make([]int, n)
	for b := range len(content) / 4 {
		was[b] = wordAt(content, 0, b)
	}
	now := slices.Clone(words)
	const single = -1
	hung := map[int]int{single: tree.single}
	for i := range m {
		hung[i] = tree.data[i]
	}
	given := map[int]int{}
	var order []int
	give := func(which int) bool {
		for range n - 2 {
			b := cursor
			if cursor++; cursor == n {
				cursor = 2
			}
			if was[b] == 0 && now[b] == 0 {
				given[which] = b
				order = append(order, which)
				now[b] = 1
				if o := hung[which]; o != 0 && now[o]%2 == 1 {
					now[o]--
				}
				return true
			}
		}
		return false
	}
	passes := 0
	for before := -1; before != len(order); passes++ {
		before = len(order)
		later := false
		for i := range m {
			from, to := 128*i, min(n, 128*i+128)
			if given[i] == 0 && (hung[i] == 0 || !slices.Equal(now[from:to], was[from:to])) && !give(i) {
				return impl.MapOut{}, impl.ErrNoSpace, passes
			}
			later = later || i >= 12 && given[i] != 0
		}
		if n > 1536 && given[single] == 0 && (later || hung[single] == 0) && !give(single) {
			return impl.MapOut{}, impl.ErrNoSpace, passes
		}
	}
	out := impl.MapOut{Root: impl.Root{Size: 4 * n}, Words: now, Cursor: cursor}
	place := func(which int) int {
		if given[which] != 0 {
			return given[which]
		}
		return hung[which]
	}
	for i := range min(m, 12) {
		out.Root.Direct[i] = place(i)
	}
	out.Root.Single = place(single)
	for _, which := range order {
		data := make([]byte, blockBytes)
		for k := range 128 {
			if b := 128*which + k; which != single && b < n {
				put32(data, 4*k, now[b])
			}
			if i := 12 + k; which == single && i < m {
				put32(data, 4*k, place(i))
			}
		}
		out.Puts = append(out.Puts, impl.Put{Block: given[which], Data: data})
	}
	return out, impl.OK, passes
}

func sameFlush(a, b impl.MapOut) bool {
	return a.Root == b.Root && a.Cursor == b.Cursor && slices.Equal(a.Words, b.Words) && samePuts(a.Puts, b.Puts)
}

func tellFlush(o impl.MapOut) string {
	places := []int{}
	for _, p := range o.Puts {
		places = append(places, p.Block)
	}
	return fmt.Sprint(o.Root, " cursor ", o.Cursor, " puts ", places)
}

// flushes writes the map, asks for the answer of the plain rule, and that
// neither arguments nor parts of the answer share memory.
func flushes(t *testing.T, name string, image []byte, ref impl.Root, words []int, cursor int) (impl.MapOut, int) {
	t.Helper()
	image0, words0 := bytes.Clone(image), slices.Clone(words)
	got, code := impl.MapFlush(image, ref, words, cursor)
	want, wantCode, _ := plainFlush(image0, ref, words0, cursor)
	if code != wantCode || !sameFlush(got, want) {
		t.Errorf("%s: %s, code %d, want %s, code %d", name, tellFlush(got), code, tellFlush(want), wantCode)
		return want, wantCode
	}
	clear(got.Words)
	for i, p := range got.Puts {
		if !bytes.Equal(p.Data, want.Puts[i].Data) {
			t.Errorf("%s: blocks share their memory", name)
		}
		for k := range p.Data {
			p.Data[k] ^= 0xff
		}
	}
	if !bytes.Equal(image, image0) || !slices.Equal(words, words0) {
		t.Errorf("%s: an argument has been changed, or shares its memory", name)
	}
	return want, code
}

func flushRefused(t *testing.T, name string, image []byte, ref impl.Root, words []int, cursor, code int) {
	t.Helper()
	got, gotCode := impl.MapFlush(image, ref, words, cursor)
	if gotCode != code || !sameFlush(got, impl.MapOut{}) {
		t.Errorf("%s: MapFlush: %s, code %d, want code %d", name, tellFlush(got), gotCode, code)
	}
}

// flushKeeps asks for promise 5 of an answer, where words have bit 0 at the
// blocks of the old map.
func flushKeeps(t *testing.T, name string, image []byte, ref impl.Root, words []int, out impl.MapOut) {
	t.Helper()
	was := make([]int, len(words))
	if content := mustRead(t, image, ref); len(content) > 0 {
		for b := range was {
			was[b] = wordAt(content, 0, b)
		}
	}
	for _, p := range out.Puts {
		if was[p.Block] != 0 || words[p.Block] != 0 {
			t.Errorf("%s: block %d is written, its word was %d and is %d", name, p.Block, was[p.Block], words[p.Block])
		}
	}
	behind := putDown(image, out.Puts)
	content := mustRead(t, behind, out.Root)
	if len(content) != 4*len(words) {
		t.Fatalf("%s: %d bytes on the device", name, len(content))
	}
	for b, w := range out.Words {
		if got := wordAt(content, 0, b); got != w {
			t.Errorf("%s: word %d on the device: %d, want %d", name, b, got, w)
		}
	}
	old, _ := impl.TreeBlocks(image, ref)
	now, _ := impl.TreeBlocks(behind, out.Root)
	want := slices.Clone(words)
	for _, b := range old {
		want[b] &^= 1
	}
	for i, b := range now {
		if slices.Contains(now[:i], b) {
			t.Errorf("%s: block %d hangs twice", name, b)
		}
		want[b] |= 1
	}
	if len(now) != impl.MapReserve(len(words)) || !slices.Equal(out.Words, want) {
		t.Errorf("%s: %d blocks, words %v, want %v", name, len(now), out.Words, want)
	}
}

// flushed is a map of n words on a device, its blocks where MapFlush put them.
func flushed(t *testing.T, words []int, cursor int) ([]byte, impl.MapOut) {
	t.Helper()
	image := blank(len(words))
	out, code := flushes(t, "the first map", image, impl.Root{}, words, cursor)
	if code != impl.OK {
		t.Fatalf("the first map: code %d", code)
	}
	flushKeeps(t, "the first map", image, impl.Root{}, words, out)
	return putDown(image, out.Puts), out
}

func placesOf(out impl.MapOut) []int {
	list := []int{}
	for _, p := range out.Puts {
		list = append(list, p.Block)
	}
	return list
}

// The worked examples of chapter 5.
func TestMapFlushWorkedExamples(t *testing.T) {
	words := emptyWords(64)
	words[2] = 1
	image, out := flushed(t, words, 3)
	if out.Root != (impl.Root{Size: 256, Direct: [12]int{3}}) || out.Cursor != 4 || !slices.Equal(placesOf(out), []int{3}) {
		t.Fatalf("no old map: %s", tellFlush(out))
	}
	for b := range 128 {
		want := 0
		if b < 4 {
			want = 1
		}
		if got := wordAt(image, 3, b); got != want {
			t.Errorf("no old map: word %d is %d", b, got)
		}
	}
	words = slices.Clone(out.Words)
	words[4] = 1
	next, code := flushes(t, "block 4", image, out.Root, words, 4)
	words[5], words[3] = 1, 0
	if code != impl.OK || next.Root != (impl.Root{Size: 256, Direct: [12]int{5}}) || next.Cursor != 6 || !slices.Equal(placesOf(next), []int{5}) || !slices.Equal(next.Words, words) {
		t.Errorf("block 4: %s, code %d, words %v", tellFlush(next), code, next.Words)
	}
	// Block 3 is free from the next time on.
	image = putDown(image, next.Puts)
	words = slices.Clone(next.Words)
	words[6] = 2
	if last, code := flushes(t, "block 3", image, next.Root, words, 3); code != impl.OK || !slices.Equal(placesOf(last), []int{3}) || last.Cursor != 4 || last.Words[5] != 0 {
		t.Errorf("block 3: %s, code %d", tellFlush(last), code)
	}
}

// The first map of each size: all blocks one behind the other, Single the last.
func TestFirstMaps(t *testing.T) {
	for _, n := range edgeBlocks {
		for _, cursor := range []int{2, 3, n / 2, n - 2, n - 1} {
			_, out := flushed(t, emptyWords(n), cursor)
			reserve := impl.MapReserve(n)
			if len(out.Puts) != reserve || out.Cursor != 2+(cursor-2+reserve)%(n-2) {
				t.Errorf("%d words, cursor %d: %s", n, cursor, tellFlush(out))
			}
			for i, p := range out.Puts {
				if p.Block != 2+(cursor-2+i)%(n-2) {
					t.Errorf("%d words, cursor %d: place %d is %d", n, cursor, i, p.Block)
				}
			}
			if single := out.Root.Single; n > 1536 && single != out.Puts[reserve-1].Block || n <= 1536 && single != 0 {
				t.Errorf("%d words: Single is %d", n, single)
			}
		}
	}
}

// Nothing has changed: nothing is written, whatever the cursor, and though no
// block is free.
func TestMapFlushWritesNothing(t *testing.T) {
	random := rand.New(rand.NewSource(14))
	for _, n := range edgeBlocks {
		words := randomWords(random, n, 30)
		free := impl.MapReserve(n)
		for b := 2; b < n; b++ {
			if words[b] == 0 || b < 2+free {
				words[b] = max(0, min(1, b-free-1))
			}
		}
		image, out := flushed(t, words, 2)
		if counts, _ := impl.MapCount(out.Words); counts.Free != 0 {
			t.Fatalf("%d words: %d are free", n, counts.Free)
		}
		for _, cursor := range []int{2, n / 2, n - 1} {
			if again, code := flushes(t, "again", image, out.Root, out.Words, cursor); code != impl.OK || len(again.Puts) != 0 || again.Root != out.Root || again.Cursor != cursor || !slices.Equal(again.Words, out.Words) {
				t.Errorf("%d words, cursor %d: %s, code %d", n, cursor, tellFlush(again), code)
			}
		}
		// One word changes, and there is no place for its block.
		words = slices.Clone(out.Words)
		words[n-1] ^= 1 << 30
		if _, code := flushes(t, "full", image, out.Root, words, 2); code != impl.ErrNoSpace {
			t.Errorf("%d words, full: code %d", n, code)
		}
	}
}

// A place in another part of the map makes that part change: later ones in the
// same pass, earlier ones in the next.
func TestPassesOfMapFlush(t *testing.T) {
	const n = 512 // four data blocks
	image, out := flushed(t, emptyWords(n), 10)
	if !slices.Equal(placesOf(out), []int{10, 11, 12, 13}) {
		t.Fatalf("the first map: %s", tellFlush(out))
	}
	for _, c := range []struct {
		name            string
		changed, cursor int
		want            []int
		root            []int
		passes          int
	}{
		// Part 3 goes to a place in part 0, whose old block is there too.
		{"one of part 3", 500, 20, []int{20, 21}, []int{21, 11, 12, 20}, 3},
		// Part 3 goes to a place in itself, but gives block 13 of part 0 up.
		{"in part 3", 500, 400, []int{400, 401}, []int{401, 11, 12, 400}, 3},
		// Part 0 goes to a place in part 2, part 2 to one of itself: one pass.
		{"upwards", 2, 260, []int{260, 261}, []int{260, 11, 261, 13}, 2},
		// Part 1 to part 3, that to itself; part 0 has given 11 up.
		{"up and down", 130, 500, []int{500, 501, 502}, []int{502, 500, 12, 501}, 3},
		// At the end of part 2 the next place is in part 3, then round the end.
		{"round the end", 3, 511, []int{511, 2}, []int{511, 11, 12, 2}, 2},
		// Part 2's place is in part 1, and part 0's, in the next pass, too: it lies ahead of part 1.
		{"one down, one more down", 300, 254, []int{254, 255, 256}, []int{255, 256, 254, 13}, 3},
	} {
		words := slices.Clone(out.Words)
		words[c.changed] = 1 << 31
		got, code := flushes(t, c.name, image, out.Root, words, c.cursor)
		if code != impl.OK || !slices.Equal(placesOf(got), c.want) || !slices.Equal(got.Root.Direct[:4], c.root) {
			t.Errorf("%s: %s, code %d, want %v, %v", c.name, tellFlush(got), code, c.want, c.root)
		}
		if _, _, passes := plainFlush(image, out.Root, words, c.cursor); passes != c.passes {
			t.Errorf("%s: %d passes, want %d", c.name, passes, c.passes)
		}
		flushKeeps(t, c.name, image, out.Root, words, got)
	}
}

// Single moves only if something below it does, behind the data blocks of its
// pass and ahead of those of the next.
func TestMapsOfMoreThanTwelveBlocks(t *testing.T) {
	const n = 1800 // fifteen data blocks
	image, out := flushed(t, emptyWords(n), 100)
	if out.Root.Single != 115 || out.Root.Direct[11] != 111 || wordAt(image, 115, 2) != 114 || wordAt(image, 115, 3) != 0 {
		t.Fatalf("the first map: %s", tellFlush(out))
	}
	for _, c := range []struct {
		name            string
		changed, cursor int
		want            []int
		single          int
	}{
		{"part 0", 50, 60, []int{60}, 115},
		{"part 11", 1535, 60, []int{60, 61}, 115},
		{"part 11 in itself", 1535, 1500, []int{1500, 1501}, 115},
		{"part 11 in part 12", 1535, 1536, []int{1536, 1537, 1538, 1539}, 1538},
		{"part 12", 1536, 60, []int{60, 61, 62}, 61},
		{"part 14", 1799, 60, []int{60, 61, 62}, 61},
		{"part 14 in part 13", 1799, 1700, []int{1700, 1701, 1702, 1703}, 1701},
		// The place of part 0, in the second pass, is in part 12, so Single moves in the first and part 12 in the second.
		{"part 13 at the end of part 11", 1700, 1534, []int{1534, 1535, 1536, 1537, 1538}, 1535},
		// Only in the second pass something below Single moves.
		{"part 1 at the end of part 0", 130, 127, []int{127, 128}, 115},
		{"part 11 at the end of part 11, part 0 in part 12", 1534, 1535, []int{1535, 1536, 1537, 1538}, 1538},
		{"round the end", 1799, 1799, []int{1799, 2, 3}, 2},
	} {
		words := slices.Clone(out.Words)
		words[c.changed] |= 1 << 31
		if c.changed == c.cursor {
			words[c.changed] = 0
			words[c.changed-1] = 4
		}
		got, code := flushes(t, c.name, image, out.Root, words, c.cursor)
		if code != impl.OK || !slices.Equal(placesOf(got), c.want) || got.Root.Single != c.single {
			t.Errorf("%s: %s, code %d, want %v, Single %d", c.name, tellFlush(got), code, c.want, c.single)
		}
		flushKeeps(t, c.name, image, out.Root, words, got)
	}
}

// Free now but in use in the old map, or the other way round: no place.
func TestPlacesAreFreeOnTheDeviceToo(t *testing.T) {
	words := emptyWords(64)
	for b := 10; b < 20; b++ {
		words[b] = []int{1, 2, 1 << 31}[b%3]
	}
	image, out := flushed(t, words, 2)
	words = slices.Clone(out.Words)
	for b := 10; b < 20; b++ {
		words[b] = 0
	}
	for b := 20; b < 30; b++ {
		words[b] = []int{1, 2, 1 << 31}[b%3]
	}
	for cursor := 10; cursor <= 30; cursor++ {
		if got, _ := flushes(t, "freed and taken", image, out.Root, words, cursor); !slices.Equal(placesOf(got), []int{30}) || got.Cursor != 31 {
			t.Errorf("cursor %d: %s", cursor, tellFlush(got))
		}
	}
	for b := 30; b < 64; b++ {
		words[b] = 1
	}
	if got, _ := flushes(t, "round the end", image, out.Root, words, 12); !slices.Equal(placesOf(got), []int{3}) || got.Cursor != 4 || got.Words[2] != 0 {
		t.Errorf("round the end: %s", tellFlush(got))
	}
	for b := 3; b < 10; b++ {
		words[b] = 1
	}
	for cursor := 2; cursor < 64; cursor++ {
		if _, code := flushes(t, "ten are free now", image, out.Root, words, cursor); code != impl.ErrNoSpace {
			t.Errorf("ten are free now, cursor %d: code %d", cursor, code)
		}
	}
}

// Snapshots that hold the map's own blocks keep them: only bit 0 goes.
func TestOldPlacesKeepTheirOtherPlanes(t *testing.T) {
	for _, n := range []int{64, 2048} {
		image, out := flushed(t, emptyWords(n), 2)
		words := slices.Clone(out.Words)
		for _, p := range out.Puts {
			words[p.Block] |= 1<<31 | 1<<5
		}
		words[n-1] = 1
		got, code := flushes(t, "other planes", image, out.Root, words, 40)
		if code != impl.OK {
			t.Fatalf("%d words: code %d", n, code)
		}
		for i, w := range got.Words[2 : 2+len(out.Puts)] {
			gone := slices.Contains([]int{0, impl.MapReserve(n) - 2, impl.MapReserve(n) - 1}, i)
			if w&^1 != 1<<31|1<<5 || gone != (w&1 == 0) {
				t.Errorf("%d words: the word of block %d is %x", n, 2+i, w)
			}
		}
		flushKeeps(t, "other planes", image, out.Root, words, got)
	}
}

// With just as many free blocks as are needed it is done, with one less not.
func TestMapFlushNeedsJustItsPlaces(t *testing.T) {
	for _, n := range edgeBlocks {
		image, out := flushed(t, emptyWords(n), 2)
		reserve := impl.MapReserve(n)
		for free := range reserve + 1 {
			words := slices.Clone(out.Words)
			for b := 2 + reserve; b < n-free; b++ {
				words[b] = 1
			}
			want, wantCode, _ := plainFlush(image, out.Root, words, n/2)
			got, code := flushes(t, fmt.Sprint(n, " words, ", free, " free"), image, out.Root, words, n/2)
			if code != wantCode || !sameFlush(got, want) {
				t.Errorf("%d words, %d free: code %d", n, free, code)
			}
			if free == reserve && code != impl.OK || free == 0 && code != impl.ErrNoSpace {
				t.Errorf("%d words, %d of %d blocks free: code %d", n, free, reserve, code)
			}
		}
		for _, free := range []int{reserve - 1, reserve} {
			words := emptyWords(n)
			for b := 2; b < n-free; b++ {
				words[b] = 1 << 31
			}
			_, code := flushes(t, "the first map", blank(n), impl.Root{}, words, 2)
			if free == reserve && code != impl.OK || free < reserve && code != impl.ErrNoSpace {
				t.Errorf("%d words, no old map, %d of %d blocks free: code %d", n, free, reserve, code)
			}
		}
	}
}

// Holes of an old map that was made by hand are given places, though their words
// are zeros already.
func TestHolesOfAnOldMap(t *testing.T) {
	const n = 1800
	image, out := flushed(t, emptyWords(n), 100)
	for _, c := range []struct {
		name string
		dig  func(image []byte, r *impl.Root)
		want []int
	}{
		{"Direct[5]", func(_ []byte, r *impl.Root) { r.Direct[5] = 0 }, []int{1000, 1001, 1002}},
		{"below Single", func(image []byte, _ *impl.Root) { putWord(image, 115, 2, 0) }, []int{1000, 1001, 1002, 1003}},
		{"Single", func(_ []byte, r *impl.Root) { r.Single = 0 }, []int{1000, 1001, 1002, 1003, 1004, 1005}},
		{"all", func(_ []byte, r *impl.Root) { *r = impl.Root{Size: r.Size} }, []int{1000, 1001, 1002, 1003, 1004, 1005, 1006, 1007, 1008, 1009, 1010, 1011, 1012, 1013, 1014, 1015}},
	} {
		image, r := bytes.Clone(image), out.Root
		c.dig(image, &r)
		got, code := flushes(t, c.name, image, r, out.Words, 1000)
		if code != impl.OK || !slices.Equal(placesOf(got), c.want) {
			t.Errorf("%s: %s, code %d, want %v", c.name, tellFlush(got), code, c.want)
		}
	}
	// Without one block: the words are all zeros, but words 0 and 1.
	for _, words := range []int{64, 1537} {
		got, code := flushes(t, "a tree of holes", blank(words), impl.Root{Size: 4 * words}, emptyWords(words), 5)
		if code != impl.OK || len(got.Puts) != impl.MapReserve(words) {
			t.Errorf("%d words, a tree of holes: %s, code %d", words, tellFlush(got), code)
		}
	}
}

// An old map made by hand in which its own block is free: the block can be its
// own new place, and has no bit then.
func TestAnOldMapThatIsFreeInItself(t *testing.T) {
	image := blank(64)
	putWord(image, 7, 0, 1)
	putWord(image, 7, 1, 1)
	ref := impl.Root{Size: 256, Direct: [12]int{7}}
	same, code := flushes(t, "the same", image, ref, emptyWords(64), 7)
	if code != impl.OK || len(same.Puts) != 0 || same.Root != ref {
		t.Errorf("the same: %s, code %d", tellFlush(same), code)
	}
	words := emptyWords(64)
	words[20] = 1
	got, code := flushes(t, "its own place", image, ref, words, 7)
	if code != impl.OK || got.Root != ref || got.Cursor != 8 || !slices.Equal(got.Words, words) || len(got.Puts) != 1 || got.Puts[0].Block != 7 || wordAt(got.Puts[0].Data, 0, 7) != 0 || wordAt(got.Puts[0].Data, 0, 20) != 1 {
		t.Errorf("its own place: %s, code %d, words %v", tellFlush(got), code, got.Words)
	}
	// Two data blocks, of which the second comes round to the place of the first.
	image = blank(256)
	putWord(image, 7, 0, 1)
	putWord(image, 7, 1, 1)
	for b := 2; b < 256; b++ {
		if b < 128 && b != 7 {
			putWord(image, 7, b, 1)
		} else if b >= 128 {
			putWord(image, 8, b-128, 1)
		}
	}
	ref = impl.Root{Size: 1024, Direct: [12]int{7, 8}}
	words = emptyWords(256)
	for b := 2; b < 256; b++ {
		words[b] = 1
	}
	words[7], words[200] = 0, 0
	words[20] = 3
	got, code = flushes(t, "twice", image, ref, words, 2)
	if code != impl.OK || !slices.Equal(placesOf(got), []int{7, 7}) || got.Words[7] != 1 || got.Words[8] != 0 || got.Cursor != 8 {
		t.Errorf("twice: %s, code %d, words 7, 8: %v", tellFlush(got), code, got.Words[7:9])
	}
}

// Maps that live: at each step some words change, the map is written, and the
// promise is asked for.
func TestMapFlushAtRandom(t *testing.T) {
	random := rand.New(rand.NewSource(15))
	codes, most := map[int]int{}, 0
	for _, n := range append([]int{100, 500, 1700}, edgeBlocks...) {
		image, root := blank(n), impl.Root{}
		words, cursor := emptyWords(n), 2+random.Intn(n-2)
		for round := range 40 {
			name := fmt.Sprint(n, " words, round ", round)
			next := slices.Clone(words)
			own, _ := impl.TreeBlocks(image, root)
			share := []int{1, 3, n / 10, n, 3 * n}[random.Intn(5)]
			full := random.Intn(3) == 0
			for range share {
				b := 2 + random.Intn(n-2)
				if random.Intn(8) == 0 || full {
					next[b] |= 1 << random.Intn(32)
				} else {
					next[b] = 0
				}
				if slices.Contains(own, b) {
					next[b] |= 1
				}
			}
			if random.Intn(3) == 0 {
				cursor = []int{2, n - 1, n - 2, 2 + random.Intn(n-2)}[random.Intn(4)]
			}
			out, code := flushes(t, name, image, root, next, cursor)
			codes[code]++
			if code != impl.OK {
				continue
			}
			_, _, passes := plainFlush(image, root, next, cursor)
			most = max(most, passes)
			flushKeeps(t, name, image, root, next, out)
			image, root, words, cursor = putDown(image, out.Puts), out.Root, out.Words, out.Cursor
		}
	}
	if codes[impl.OK] < 300 || codes[impl.ErrNoSpace] < 30 || most < 4 {
		t.Errorf("codes %v, at most %d passes", codes, most)
	}
}

// Old maps made by hand: any pointers, any words, blocks that hang twice or are
// free in themselves, places that are given up as soon as they are given.
func TestMapFlushOfAnythingAtRandom(t *testing.T) {
	random := rand.New(rand.NewSource(16))
	codes := map[int]int{}
	twice, itself := 0, 0
	for round := range 1500 {
		n := []int{64, 65, 129, 256, 300, 1536, 1537, 1700, 2048}[random.Intn(9)]
		m := (n + 127) / 128
		image := blank(n)
		near := 2 + random.Intn(n-20)
		pick := func() int {
			switch random.Intn(120) {
			case 0:
				return n + random.Intn(3)
			case 1, 2, 3:
				return random.Intn(n)
			}
			return near + random.Intn(18)
		}
		old := randomWords(random, n, []int{1, 2, 50, 400}[random.Intn(4)])
		for k := range 18 {
			if random.Intn(2) == 0 {
				old[near+k] = 0
			}
		}
		ref := impl.Root{Size: 4 * n}
		for i := range min(m, 12) {
			ref.Direct[i] = min(pick(), impl.MaxBlocks-1)
		}
		if m > 12 && random.Intn(6) > 0 {
			ref.Single = near
			for k := range 6 {
				putWord(image, near, k, pick())
			}
		}
		if random.Intn(10) == 0 {
			ref = impl.Root{}
		}
		for i, b := range ref.Direct {
			if b == 1 {
				ref.Direct[i] = 0
			}
			if b < 2 || b >= n || b == ref.Single || i >= m || random.Intn(4) == 0 {
				continue
			}
			for k := range 128 {
				if 128*i+k < n {
					putWord(image, b, k, old[128*i+k])
				} else if random.Intn(9) == 0 {
					putWord(image, b, k, 1)
				}
			}
		}
		words := slices.Clone(old)
		for range random.Intn(4) {
			words[2+random.Intn(n-2)] = random.Intn(4)
		}
		for k := range 18 {
			if random.Intn(6) == 0 {
				words[near+k] = random.Intn(4)
			}
		}
		cursor := []int{near, near + 9, 2, n - 1}[random.Intn(4)]
		out, code := flushes(t, fmt.Sprint("round ", round), image, ref, words, cursor)
		codes[code]++
		places := placesOf(out)
		slices.Sort(places)
		if len(slices.Compact(slices.Clone(places))) < len(places) {
			twice++
		}
		for i, b := range out.Root.Direct {
			if b != 0 && b == ref.Direct[i] && slices.Contains(places, b) {
				itself++
				break
			}
		}
	}
	if codes[impl.OK] < 300 || codes[impl.ErrNoSpace] < 50 || codes[impl.ErrCorrupt] < 50 || twice < 10 || itself < 20 {
		t.Errorf("codes %v, a place given twice %d times, a block its own place %d times", codes, twice, itself)
	}
}

func TestMapFlushRefusesWrongArguments(t *testing.T) {
	words := emptyWords(64)
	for _, size := range []int{0, 1, 512, 63 * 512, 64*512 - 1, 64*512 + 1, 65 * 512, 128 * 512, 2048 * 512, 2049 * 512} {
		flushRefused(t, fmt.Sprint("image of ", size, " bytes"), make([]byte, size), impl.Root{}, words, 2, impl.ErrInval)
	}
	flushRefused(t, "2049 blocks and words", blank(2049), impl.Root{}, emptyWords(2049), 2, impl.ErrInval)
	flushRefused(t, "63 blocks and words", blank(63), impl.Root{}, emptyWords(63), 2, impl.ErrInval)
	for _, n := range []int{65, 127, 128, 2048} {
		flushRefused(t, fmt.Sprint(n, " words"), blank(64), impl.Root{}, emptyWords(n), 2, impl.ErrInval)
		flushRefused(t, fmt.Sprint(n, " blocks"), blank(n), impl.Root{}, words, 2, impl.ErrInval)
	}
	for _, size := range []int{math.MinInt, -256, -1, 1, 252, 255, 257, 260, 512, 1024, impl.MaxFile, impl.MaxFile + 1, 1<<32 + 256, 1 << 62, math.MaxInt} {
		flushRefused(t, fmt.Sprint("Size ", size), blank(64), impl.Root{Size: size}, words, 2, impl.ErrInval)
	}
	for _, ref := range []impl.Root{
		{Direct: [12]int{5}},
		{Size: 256, Direct: [12]int{1}},
		{Size: 256, Direct: [12]int{-1}},
		{Size: 256, Direct: [12]int{impl.MaxBlocks}},
		{Size: 256, Direct: [12]int{5, 6}},
		{Size: 256, Direct: [12]int{5}, Single: 6},
		{Size: 256, Direct: [12]int{5}, Double: 6},
	} {
		flushRefused(t, fmt.Sprint(ref), blank(64), ref, words, 2, impl.ErrInval)
	}
	flushRefused(t, "Double", blank(2048), impl.Root{Size: 8192, Double: 6}, emptyWords(2048), 2, impl.ErrInval)
	for _, cursor := range []int{math.MinInt, -1, 0, 1, 64, 65, 1 << 32, 1<<32 + 2, math.MaxInt} {
		flushRefused(t, fmt.Sprint("cursor ", cursor), blank(64), impl.Root{}, words, cursor, impl.ErrInval)
	}
	for _, cursor := range []int{2048, 2049} {
		flushRefused(t, fmt.Sprint("cursor ", cursor), blank(2048), impl.Root{}, emptyWords(2048), cursor, impl.ErrInval)
	}
}

func TestMapFlushRefusesAnOldMapThatCannotBeRead(t *testing.T) {
	for _, b := range []int{64, 65, 2047} {
		flushRefused(t, fmt.Sprint("Direct ", b), blank(64), impl.Root{Size: 256, Direct: [12]int{b}}, emptyWords(64), 2, impl.ErrCorrupt)
	}
	const n = 1800
	image, out := flushed(t, emptyWords(n), 100)
	for _, b := range []int{n, n + 1, 2047} {
		r := out.Root
		r.Single = b
		flushRefused(t, fmt.Sprint("Single ", b), image, r, out.Words, 2, impl.ErrCorrupt)
	}
	for _, bad := range []int{1, n, n + 1, 2048, 1<<32 - 1} {
		for word := range 3 {
			image := bytes.Clone(image)
			putWord(image, 115, word, bad)
			flushRefused(t, fmt.Sprint("word ", word, " of Single ", bad), image, out.Root, out.Words, 2, impl.ErrCorrupt)
		}
		// Words that belong to no data block do not matter; Single stays.
		image := bytes.Clone(image)
		putWord(image, 115, 3, bad)
		putWord(image, 115, 127, bad)
		if got, code := flushes(t, "words behind the end", image, out.Root, out.Words, 2); code != impl.OK || got.Root != out.Root || len(got.Puts) != 0 {
			t.Errorf("words behind the end: %s, code %d", tellFlush(got), code)
		}
	}
}

// Where several faults are in one call, the first of the text is told.
func TestOrderOfFaultsOfTheMap(t *testing.T) {
	full := emptyWords(64)
	for b := range full {
		full[b] = 1
	}
	corrupt := impl.Root{Size: 256, Direct: [12]int{64}}
	flushRefused(t, "corrupt and a wrong cursor", blank(64), corrupt, full, 64, impl.ErrInval)
	flushRefused(t, "corrupt and a wrong map", blank(64), corrupt, make([]int, 64), 2, impl.ErrInval)
	flushRefused(t, "corrupt and another number of words", blank(64), corrupt, emptyWords(65), 2, impl.ErrInval)
	flushRefused(t, "corrupt and full", blank(64), corrupt, full, 2, impl.ErrCorrupt)
	flushRefused(t, "full and a wrong cursor", blank(64), impl.Root{}, full, 1, impl.ErrInval)
	flushRefused(t, "full", blank(64), impl.Root{}, full, 2, impl.ErrNoSpace)
	if _, _, code := impl.MapFree(full, 64, 1); code != impl.ErrInval {
		t.Errorf("MapFree, full and a wrong cursor: code %d", code)
	}
	if _, code := impl.MapPlane(full, 32, []int{1}); code != impl.ErrInval {
		t.Errorf("MapPlane, a wrong plane and a wrong block: code %d", code)
	}
}
