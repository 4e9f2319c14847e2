package tests

import (
	"bytes"
	"encoding/binary"
	"fmt"
	"math"
	"math/rand"
	"slices"
	"strings"
	"testing"

	"loop.example/s02533/impl"
)

// slotOf is the slot of an entry, whatever it is, as chapter 7 lays it down.
func slotOf(name string, ino, kind int) []byte {
	b := make([]byte, 32)
	put32(b, 0, ino)
	b[4] = byte(kind)
	b[5] = byte(len(name))
	copy(b[6:], name)
	return b
}

func entryOf(name string, ino, kind int) impl.Dirent {
	return impl.Dirent{Name: name, Ino: ino, Kind: kind}
}

// dirOf is a directory that has the slots one behind the other (nil is an empty
// one), and empty ones behind them to the end of the block.
func dirOf(slots ...[]byte) []byte {
	b := []byte{}
	for _, s := range slots {
		b = append(b, append(bytes.Clone(s), make([]byte, 32-len(s))...)...)
	}
	for len(b)%impl.BlockSize != 0 {
		b = append(b, 0)
	}
	return b
}

func numberedName(k int) string { return fmt.Sprintf("n%05d", k) }

// crowded is a directory of so many entries, one in each slot from the first on.
func crowded(many int) []byte {
	slots := [][]byte{}
	for k := range many {
		slots = append(slots, slotOf(numberedName(k), 1+k%1000, 1+k%3))
	}
	return dirOf(slots...)
}

const mostEntries = impl.MaxFile / 32

// plainlyRight reads chapter 7's rule slot by slot: the slots, and whether the
// bytes are those of a directory.
func plainlyRight(content []byte) ([]impl.Dirent, bool) {
	if len(content)%512 != 0 || len(content) > 262144 {
		return nil, false
	}
	slots, names := []impl.Dirent{}, map[string]bool{}
	for at := 0; at < len(content); at += 32 {
		s := content[at : at+32]
		if bytes.Equal(s, make([]byte, 32)) {
			slots = append(slots, impl.Dirent{})
			continue
		}
		ino, kind, length := binary.LittleEndian.Uint32(s), s[4], int(s[5])
		if ino < 1 || ino > 1000 || kind < 1 || kind > 3 || length < 1 || length > 26 {
			return nil, false
		}
		name := string(s[6 : 6+length])
		if name == "." || name == ".." || strings.ContainsAny(name, "/\x00") || strings.Trim(string(s[6+length:]), "\x00") != "" {
			return nil, false
		}
		if names[name] {
			return nil, false
		}
		names[name] = true
		slots = append(slots, impl.Dirent{Name: name, Ino: int(ino), Kind: int(kind)})
	}
	if len(content) > 0 && bytes.Equal(content[len(content)-512:], make([]byte, 512)) {
		return nil, false
	}
	return slots, true
}

// addRefused also sees to it that nothing is told beside the code.
func addRefused(t *testing.T, name string, content []byte, d impl.Dirent, code int) {
	t.Helper()
	before := bytes.Clone(content)
	if b, got := impl.DirAdd(content, d); got != code || len(b) != 0 {
		t.Errorf("%s: add %q, %d, %d: %d bytes, code %d, want %d", name, d.Name, d.Ino, d.Kind, len(b), got, code)
	}
	if !bytes.Equal(content, before) {
		t.Errorf("%s: the argument has been changed", name)
	}
}

func notThere(t *testing.T, name string, content []byte, entry string, code int) {
	t.Helper()
	before := bytes.Clone(content)
	if slot, d, got := impl.DirFind(content, entry); got != code || slot != 0 || d != (impl.Dirent{}) {
		t.Errorf("%s: find %q: %d, %v, code %d, want %d", name, entry, slot, d, got, code)
	}
	if b, got := impl.DirRemove(content, entry); got != code || len(b) != 0 {
		t.Errorf("%s: remove %q: %d bytes, code %d, want %d", name, entry, len(b), got, code)
	}
	if !bytes.Equal(content, before) {
		t.Errorf("%s: the argument has been changed", name)
	}
}

// corrupt sees to it that no function takes the bytes, whatever else is asked.
func corrupt(t *testing.T, name string, content []byte) {
	t.Helper()
	if code := impl.DirCheck(content); code != impl.ErrCorrupt {
		t.Errorf("%s: check: code %d", name, code)
	}
	for _, entry := range []string{"", "a", "b", ".", "a/b", strings.Repeat("x", 27), "new"} {
		notThere(t, name, content, entry, impl.ErrCorrupt)
		addRefused(t, name, content, entryOf(entry, 2, 1), impl.ErrCorrupt)
		addRefused(t, name, content, entryOf(entry, 0, 9), impl.ErrCorrupt)
	}
	if list, code := impl.DirList(content); code != impl.ErrCorrupt || len(list) != 0 {
		t.Errorf("%s: list: %v, code %d", name, list, code)
	}
}

// holds sees to it that the directory has just these slots, at the face of every
// function that only looks.
func holds(t *testing.T, name string, content []byte, slots []impl.Dirent) {
	t.Helper()
	before := bytes.Clone(content)
	if code := impl.DirCheck(content); code != impl.OK {
		t.Errorf("%s: check: code %d", name, code)
	}
	want := []impl.Dirent{}
	for place, d := range slots {
		if d == (impl.Dirent{}) {
			continue
		}
		if slot, got, code := impl.DirFind(content, d.Name); code != impl.OK || slot != place || got != d {
			t.Errorf("%s: find %q: %d, %v, code %d, want %d, %v", name, d.Name, slot, got, code, place, d)
		}
		want = append(want, d)
	}
	slices.SortFunc(want, func(a, b impl.Dirent) int { return bytes.Compare([]byte(a.Name), []byte(b.Name)) })
	list, code := impl.DirList(content)
	if code != impl.OK || !slices.Equal(list, want) {
		t.Errorf("%s: list: %v, code %d, want %v", name, list, code, want)
	}
	clear(list)
	if !bytes.Equal(content, before) {
		t.Errorf("%s: the argument has been changed", name)
	}
}

func TestRightDirectories(t *testing.T) {
	long := strings.Repeat("x", impl.MaxName)
	for _, c := range []struct {
		name    string
		content []byte
	}{
		{"nil", nil},
		{"no bytes", []byte{}},
		{"one entry", dirOf(slotOf("a", 1, 1))},
		{"least and greatest numbers", dirOf(slotOf("a", 1, 1), slotOf("b", 1000, 3), slotOf("c", 256, 2))},
		{"one number in many entries", dirOf(slotOf("a", 5, 1), slotOf("b", 5, 1), slotOf("c", 5, 2))},
		{"a name of MaxName bytes", dirOf(slotOf(long, 7, 2), slotOf(long[1:], 7, 2))},
		{"an entry in the last slot alone", dirOf(append(make([][]byte, 15), slotOf("z", 2, 1))...)},
		{"an empty slot in the middle", dirOf(slotOf("a", 2, 1), nil, slotOf("b", 3, 2))},
		{"a full block", crowded(16)},
		{"a full block and one entry", crowded(17)},
		{"an entry at the end of the second block alone", dirOf(append(make([][]byte, 31), slotOf("z", 2, 1))...)},
		{"many empty blocks ahead of one entry", dirOf(append(make([][]byte, 160), slotOf("z", 2, 1))...)},
		{"strange names", dirOf(slotOf("...", 2, 1), slotOf(".a", 2, 1), slotOf(" ", 2, 1), slotOf("\xff\xfe", 2, 1), slotOf("ä", 2, 1), slotOf("\n", 2, 1), slotOf("..\x01", 2, 1), slotOf(".snapshot", 2, 1), slotOf("\xc0\xaf", 2, 1))},
		{"a name and its beginnings", dirOf(slotOf("aaa", 2, 1), slotOf("a", 3, 1), slotOf("aa", 4, 1), slotOf("A", 5, 1))},
	} {
		slots, right := plainlyRight(c.content)
		if !right {
			t.Fatalf("%s: the test's own directory isn't right", c.name)
		}
		holds(t, c.name, c.content, slots)
		for _, entry := range []string{"", ".", "..", "nobody", "/", "a/b", "aaaa", "a\x00", long + "x", strings.Repeat("y", 5000)} {
			notThere(t, c.name, c.content, entry, impl.ErrNoEnt)
		}
	}
}

func TestDirectoriesOfWrongLength(t *testing.T) {
	one := dirOf(slotOf("a", 2, 1))
	for n := 1; n < 512; n++ {
		corrupt(t, fmt.Sprint(n, " bytes"), one[:n])
	}
	for _, n := range []int{1, 31, 32, 64, 511} {
		corrupt(t, fmt.Sprint("a block and ", n, " bytes"), append(bytes.Clone(one), make([]byte, n)...))
		corrupt(t, fmt.Sprint("two blocks less ", n, " bytes"), crowded(32)[:1024-n])
	}
	corrupt(t, "a slot behind the block", append(bytes.Clone(one), slotOf("b", 2, 1)...))
	corrupt(t, "one block more than MaxFile", crowded(mostEntries+16))
	corrupt(t, "one entry more than MaxFile", crowded(mostEntries+1))
	corrupt(t, "a slot more than MaxFile", append(crowded(mostEntries), slotOf("b", 2, 1)...))
	corrupt(t, "zeros, far more than MaxFile", make([]byte, 1<<22))
}

func TestWrongSlots(t *testing.T) {
	filled := func(at int) []byte {
		b := make([]byte, 32)
		b[at] = 1
		return b
	}
	behind := func(name string, at int) []byte {
		b := slotOf(name, 2, 1)
		b[at] = 'x'
		return b
	}
	length := func(name string, n int) []byte {
		b := slotOf(name, 2, 1)
		b[5] = byte(n)
		return b
	}
	bad := map[string][]byte{
		"number 0":              slotOf("x", 0, 1),
		"number 1001":           slotOf("x", 1001, 1),
		"number 65536":          slotOf("x", 65536, 1),
		"number 2^24":           slotOf("x", 1<<24, 1),
		"number 2^31 and 1":     slotOf("x", 1<<31+1, 1),
		"number 2^32 - 1":       slotOf("x", 1<<32-1, 1),
		"Kind 0":                slotOf("x", 2, 0),
		"Kind 4":                slotOf("x", 2, 4),
		"Kind 255":              slotOf("x", 2, 255),
		"no name":               slotOf("", 2, 1),
		"the name .":            slotOf(".", 2, 1),
		"the name ..":           slotOf("..", 2, 1),
		"a / in the name":       slotOf("a/b", 2, 1),
		"the name /":            slotOf("/", 2, 1),
		"a / at the end":        slotOf(strings.Repeat("x", 25)+"/", 2, 1),
		"a 0 in the name":       slotOf("a\x00b", 2, 1),
		"a 0 at the end":        slotOf("a\x00", 2, 1),
		"a 0 ahead":             slotOf("\x00a", 2, 1),
		"a name without letter": length("", 26),
		"a length too long":     length("abc", 4),
		"a length too short":    length("abc", 2),
		"the length 0":          length("abc", 0),
		"the length 27":         length(strings.Repeat("x", 26), 27),
		"the length 255":        length(strings.Repeat("x", 26), 255),
		"numbers without name":  slotOf("", 2, 2),
		"a name without number": slotOf("x", 0, 0),
	}
	for at := range 32 {
		bad[fmt.Sprint("nearly empty, byte ", at)] = filled(at)
	}
	for at := 7; at < 32; at++ {
		bad[fmt.Sprint("byte ", at, " behind the name")] = behind("q", at)
	}
	bad["the last byte behind a name of 25"] = behind(strings.Repeat("x", 25), 31)
	for name, slot := range bad {
		corrupt(t, name+", alone", dirOf(slot))
		corrupt(t, name+", in the middle", dirOf(slotOf("a", 2, 1), slot, slotOf("b", 2, 1)))
		corrupt(t, name+", ahead of empty ones", dirOf(slot, nil, slotOf("b", 2, 1)))
		last := crowded(32)
		copy(last[1024-32:], slot)
		corrupt(t, name+", at the end", last)
	}
}

func TestNamesTwice(t *testing.T) {
	long := strings.Repeat("x", impl.MaxName)
	for _, name := range []string{"a", "ab", long, "\xff"} {
		corrupt(t, name+", side by side", dirOf(slotOf(name, 2, 1), slotOf(name, 3, 2)))
		corrupt(t, name+", the same entry", dirOf(slotOf(name, 2, 1), slotOf(name, 2, 1)))
		corrupt(t, name+", with an empty slot between", dirOf(slotOf("b", 2, 1), slotOf(name, 2, 1), nil, slotOf(name, 2, 1)))
		corrupt(t, name+", in two blocks", append(dirOf(slotOf(name, 2, 1)), dirOf(nil, slotOf("c", 2, 1), slotOf(name, 2, 1))...))
	}
	full := crowded(mostEntries)
	copy(full[impl.MaxFile-32:], slotOf(numberedName(0), 2, 1))
	if code := impl.DirCheck(full); code != impl.ErrCorrupt {
		t.Errorf("the first name again at the end of MaxFile: code %d", code)
	}
}

func TestLastBlocksOfEmptySlots(t *testing.T) {
	for _, many := range []int{0, 1, 16, 17} {
		for _, blocks := range []int{1, 2, 5} {
			corrupt(t, fmt.Sprintf("%d entries and %d empty blocks", many, blocks), append(crowded(many), make([]byte, 512*blocks)...))
		}
	}
	corrupt(t, "MaxFile zeros", make([]byte, impl.MaxFile))
}

// Every change of one byte of a small directory is taken or refused by the rule.
func TestChangedBytesOfADirectory(t *testing.T) {
	t.Parallel()
	whole := append(dirOf(nil, slotOf("ab", 999, 3), slotOf("ac", 2, 1), slotOf(strings.Repeat("x", 26), 3, 2)), dirOf(nil, slotOf("b", 3, 1))...)
	right := 0
	for at := range whole {
		for value := range 256 {
			b := bytes.Clone(whole)
			b[at] = byte(value)
			slots, want := plainlyRight(b)
			if got := impl.DirCheck(b) == impl.OK; got != want {
				t.Errorf("byte %d is %d: right %v, want %v", at, value, got, want)
			}
			if want {
				right++
				holds(t, fmt.Sprintf("byte %d is %d", at, value), b, slots)
			}
		}
	}
	if right < len(whole) {
		t.Errorf("only %d are right", right)
	}
}

func TestDirectoriesAtRandom(t *testing.T) {
	random := rand.New(rand.NewSource(71))
	right := 0
	for round := range 3000 {
		slots := make([][]byte, random.Intn(40))
		for k := range slots {
			if random.Intn(4) > 0 {
				slots[k] = slotOf(numberedName(random.Intn(600)), 1+random.Intn(1000), 1+random.Intn(3))
			}
		}
		b := dirOf(slots...)
		if random.Intn(4) == 0 && len(b) > 0 {
			b[random.Intn(len(b))] = byte(random.Intn(256))
		}
		read, want := plainlyRight(b)
		if !want {
			corrupt(t, fmt.Sprint("round ", round), b)
			continue
		}
		right++
		holds(t, fmt.Sprint("round ", round), b, read)
	}
	if right < 300 || right > 2700 {
		t.Errorf("%d of 3000 are right", right)
	}
}

func TestDirAddOfWrongEntries(t *testing.T) {
	long := strings.Repeat("x", 27)
	for _, content := range [][]byte{nil, dirOf(slotOf("a", 2, 1)), crowded(16), crowded(mostEntries)} {
		for name, code := range map[string]int{
			"": impl.ErrInval, ".": impl.ErrInval, "..": impl.ErrInval, "/": impl.ErrInval, "a/": impl.ErrInval, "a\x00": impl.ErrInval, "\x00": impl.ErrInval,
			"\xe2\x82/": impl.ErrInval, long: impl.ErrNameLong, strings.Repeat("/", 27): impl.ErrNameLong, strings.Repeat("\x00", 300): impl.ErrNameLong,
			strings.Repeat("x", 256): impl.ErrNameLong, strings.Repeat("x", 257): impl.ErrNameLong, strings.Repeat("ä", 14): impl.ErrNameLong,
		} {
			for _, ino := range []int{0, 1, 1001} {
				for _, kind := range []int{0, 1, 4} {
					addRefused(t, "a wrong name", content, entryOf(name, ino, kind), code)
				}
			}
		}
		for _, name := range []string{"a", "new", numberedName(3), strings.Repeat("y", 26)} {
			for _, ino := range []int{math.MinInt, -1000, -1, 0, 1001, 65537, 1<<32 + 1, 1<<32 + 1000, math.MaxInt} {
				for _, kind := range []int{0, 1, 3} {
					addRefused(t, "a wrong Ino", content, entryOf(name, ino, kind), impl.ErrInval)
				}
			}
			for _, kind := range []int{math.MinInt, -1, 0, 4, 257, 1<<32 + 1, 1<<56 + 2, math.MaxInt} {
				for _, ino := range []int{0, 1, 1000} {
					addRefused(t, "a wrong Kind", content, entryOf(name, ino, kind), impl.ErrInval)
				}
			}
		}
	}
}

func TestDirAddOfNamesThatAreThere(t *testing.T) {
	for _, many := range []int{1, 16, 17, 40, mostEntries} {
		content := crowded(many)
		for _, k := range []int{0, many / 2, many - 1} {
			for _, d := range []impl.Dirent{entryOf(numberedName(k), 1+k%1000, 1+k%3), entryOf(numberedName(k), 1, 1), entryOf(numberedName(k), 1000, 3)} {
				addRefused(t, fmt.Sprint(many, " entries"), content, d, impl.ErrExist)
			}
		}
	}
}

func adds(t *testing.T, name string, content []byte, d impl.Dirent, want []byte) []byte {
	t.Helper()
	before := bytes.Clone(content)
	got, code := impl.DirAdd(content, d)
	if code != impl.OK || !bytes.Equal(got, want) {
		t.Fatalf("%s: add %q: code %d, %d bytes, want %d", name, d.Name, code, len(got), len(want))
	}
	out := bytes.Clone(got)
	clear(got)
	if !bytes.Equal(content, before) {
		t.Errorf("%s: the argument has been changed, or shares its memory", name)
	}
	return out
}

func removes(t *testing.T, name string, content []byte, entry string, want []byte) []byte {
	t.Helper()
	before := bytes.Clone(content)
	got, code := impl.DirRemove(content, entry)
	if code != impl.OK || !bytes.Equal(got, want) {
		t.Fatalf("%s: remove %q: code %d, %d bytes, want %d", name, entry, code, len(got), len(want))
	}
	out := bytes.Clone(got)
	clear(got)
	if !bytes.Equal(content, before) {
		t.Errorf("%s: the argument has been changed, or shares its memory", name)
	}
	return out
}

func TestDirAddTakesTheFirstEmptySlot(t *testing.T) {
	d := entryOf("new", 700, 3)
	slot := slotOf("new", 700, 3)
	a, b := slotOf("a", 2, 1), slotOf("b", 3, 2)
	adds(t, "no bytes", nil, d, dirOf(slot))
	adds(t, "a block of one entry", dirOf(a), d, dirOf(a, slot))
	adds(t, "an empty slot ahead", dirOf(nil, a), d, dirOf(slot, a))
	adds(t, "an empty slot in the middle", dirOf(a, nil, b, nil), d, dirOf(a, slot, b))
	adds(t, "two empty slots", dirOf(a, nil, nil, b), d, dirOf(a, slot, nil, b))
	adds(t, "the last slot", dirOf(append([][]byte{nil, a}, make([][]byte, 13)...)...), d, dirOf(slot, a))
	full := crowded(16)
	adds(t, "a full block", full, d, append(bytes.Clone(full), dirOf(slot)...))
	almost := crowded(15)
	adds(t, "one slot is left", almost, d, append(bytes.Clone(almost[:480]), slot...))
	adds(t, "a full block and one entry", append(bytes.Clone(full), dirOf(a)...), d, append(bytes.Clone(full), dirOf(a, slot)...))
	adds(t, "an empty slot in the first of two full blocks", append(dirOf(full[:32], nil, full[64:96], nil), crowded(32)[512:]...), d, append(dirOf(full[:32], slot, full[64:96], nil), crowded(32)[512:]...))
	adds(t, "empty blocks ahead", dirOf(append(make([][]byte, 64), a)...), d, dirOf(append(append([][]byte{slot}, make([][]byte, 63)...), a)...))
	for length := 1; length <= impl.MaxName; length++ {
		for _, letter := range []string{"x", "\x01", "\xff", "."} {
			name := strings.Repeat(letter, length)
			if name == "." || name == ".." {
				continue
			}
			for _, ino := range []int{1, 2, 255, 256, 1000} {
				made := adds(t, "a name", dirOf(a), entryOf(name, ino, 1+ino%3), dirOf(a, slotOf(name, ino, 1+ino%3)))
				holds(t, "a name", made, append([]impl.Dirent{entryOf("a", 2, 1), entryOf(name, ino, 1+ino%3)}, make([]impl.Dirent, 14)...))
			}
		}
	}
}

func TestTheGreatestDirectory(t *testing.T) {
	full := crowded(mostEntries)
	if len(full) != impl.MaxFile || impl.DirCheck(full) != impl.OK {
		t.Fatalf("%d bytes: code %d", len(full), impl.DirCheck(full))
	}
	for _, k := range []int{0, 4000, mostEntries - 1} {
		if slot, d, code := impl.DirFind(full, numberedName(k)); code != impl.OK || slot != k || d != entryOf(numberedName(k), 1+k%1000, 1+k%3) {
			t.Errorf("find %d: %d, %v, code %d", k, slot, d, code)
		}
	}
	if list, code := impl.DirList(full); code != impl.OK || len(list) != mostEntries || list[77].Name != numberedName(77) || list[mostEntries-1].Name != numberedName(mostEntries-1) {
		t.Errorf("list: %d entries, code %d", len(list), code)
	}
	d, slot := entryOf("new", 5, 2), slotOf("new", 5, 2)
	addRefused(t, "full", full, d, impl.ErrFbig)
	addRefused(t, "full, a wrong Ino", full, entryOf("new", 0, 2), impl.ErrInval)
	addRefused(t, "full, a name that is there", full, entryOf(numberedName(9), 5, 2), impl.ErrExist)
	for _, k := range []int{0, 4000, mostEntries - 1} {
		without := bytes.Clone(full)
		copy(without[32*k:], make([]byte, 32))
		removes(t, "full", full, numberedName(k), without)
		with := bytes.Clone(without)
		copy(with[32*k:], slot)
		adds(t, "full but one", without, d, with)
		addRefused(t, "full again", with, entryOf(numberedName(k), 5, 2), impl.ErrFbig)
	}
	// A block less than MaxFile: the last block is put behind it.
	shorter := crowded(mostEntries - 16)
	if len(shorter) != impl.MaxFile-512 {
		t.Fatalf("%d bytes", len(shorter))
	}
	adds(t, "a block less", shorter, d, append(bytes.Clone(shorter), dirOf(slot)...))
	sparse := make([]byte, impl.MaxFile)
	copy(sparse[impl.MaxFile-32:], slot)
	holds(t, "one entry at the end of MaxFile", sparse, append(make([]impl.Dirent, mostEntries-1), d))
	removes(t, "one entry at the end of MaxFile", sparse, "new", nil)
}

func TestDirRemoveTakesEmptyBlocksAway(t *testing.T) {
	a, b, c := slotOf("a", 2, 1), slotOf("b", 3, 2), slotOf("c", 4, 3)
	blocks := func(list ...[]byte) []byte { return slices.Concat(list...) }
	hollow := make([]byte, 512)
	removes(t, "the only entry", dirOf(a), "a", nil)
	removes(t, "the only entry, not in the first slot", dirOf(nil, nil, a), "a", nil)
	removes(t, "one of two", dirOf(a, b), "a", dirOf(nil, b))
	removes(t, "the last of two", dirOf(a, b), "b", dirOf(a))
	removes(t, "one in the middle", dirOf(a, b, c), "b", dirOf(a, nil, c))
	removes(t, "the last one of the last block", blocks(dirOf(a), dirOf(b)), "b", dirOf(a))
	removes(t, "the last one of the first block", blocks(dirOf(a), dirOf(b)), "a", blocks(hollow, dirOf(b)))
	removes(t, "an empty block ahead", blocks(dirOf(a), hollow, dirOf(b)), "b", dirOf(a))
	removes(t, "many empty blocks ahead", blocks(dirOf(nil, a), bytes.Repeat(hollow, 40), dirOf(nil, nil, c)), "c", dirOf(nil, a))
	removes(t, "empty blocks ahead of what is left", blocks(hollow, dirOf(a), hollow, dirOf(b)), "b", blocks(hollow, dirOf(a)))
	removes(t, "nothing but empty blocks ahead", blocks(hollow, hollow, dirOf(a)), "a", nil)
	removes(t, "an entry stays at the end of the last block", blocks(dirOf(a), dirOf(append(make([][]byte, 14), b, c)...)), "b", blocks(dirOf(a), dirOf(append(make([][]byte, 15), c)...)))
	removes(t, "an entry stays at the beginning of the last block", blocks(dirOf(a), dirOf(b, c)), "c", blocks(dirOf(a), dirOf(b)))
	removes(t, "an entry of a block in the middle", blocks(dirOf(a), dirOf(b), dirOf(c)), "b", blocks(dirOf(a), hollow, dirOf(c)))
}

// A block comes back when it is needed again, and behind a removal the first empty
// slot is the one that was left.
func TestSlotsAreTakenAgain(t *testing.T) {
	content := crowded(33)
	content = removes(t, "the third block goes", content, numberedName(32), crowded(32))
	content = adds(t, "the third block comes", content, entryOf("again", 9, 1), append(crowded(32), dirOf(slotOf("again", 9, 1))...))
	content, code := impl.DirRemove(content, numberedName(20))
	if code != impl.OK || len(content) != 1536 {
		t.Fatalf("%d bytes, code %d", len(content), code)
	}
	content, _ = impl.DirRemove(content, numberedName(4))
	for _, want := range []int{4, 20, 33} {
		name := fmt.Sprint("slot ", want)
		content, code = impl.DirAdd(content, entryOf(name, 8, 2))
		if slot, d, found := impl.DirFind(content, name); code != impl.OK || found != impl.OK || slot != want || d != entryOf(name, 8, 2) {
			t.Errorf("%s: %d, %v, codes %d, %d", name, slot, d, code, found)
		}
	}
	notThere(t, "what was taken away", content, numberedName(20), impl.ErrNoEnt)
}

func TestDirListIsSortedByBytes(t *testing.T) {
	names := []string{"\x01", " ", "-", "..\x01", "...", ".a", "0", "1", "10", "2", "A", "B", "a", "a ", "aa", "ab", "b", "z", "\x7f", "\x80", "é", "\xff", "\xff\xff"}
	sorted := slices.Clone(names)
	slices.SortFunc(sorted, func(a, b string) int { return bytes.Compare([]byte(a), []byte(b)) })
	random := rand.New(rand.NewSource(72))
	for range 50 {
		random.Shuffle(len(names), func(i, k int) { names[i], names[k] = names[k], names[i] })
		content := []byte{}
		for k, name := range names {
			content, _ = impl.DirAdd(content, entryOf(name, 1+k, 1+k%3))
		}
		for range 3 {
			list, code := impl.DirList(content)
			got := []string{}
			for _, d := range list {
				got = append(got, d.Name)
			}
			if code != impl.OK || !slices.Equal(got, sorted) {
				t.Fatalf("%q, code %d, want %q", got, code, sorted)
			}
		}
	}
}

func TestDirAnswersAreNewMemory(t *testing.T) {
	content := dirOf(slotOf("a", 2, 1), slotOf("b", 3, 1))
	list, _ := impl.DirList(content)
	_, found, _ := impl.DirFind(content, "b")
	first, _ := impl.DirAdd(content, entryOf("c", 4, 1))
	second, _ := impl.DirAdd(content, entryOf("c", 4, 1))
	shorter, _ := impl.DirRemove(content, "b")
	clear(content)
	clear(first)
	if !slices.Equal(list, []impl.Dirent{entryOf("a", 2, 1), entryOf("b", 3, 1)}) || found != entryOf("b", 3, 1) {
		t.Errorf("what was told hangs on the argument: %v, %v", list, found)
	}
	if !bytes.Equal(second, dirOf(slotOf("a", 2, 1), slotOf("b", 3, 1), slotOf("c", 4, 1))) || !bytes.Equal(shorter, dirOf(slotOf("a", 2, 1))) {
		t.Errorf("the bytes hang on the argument or on each other")
	}
	// Spare memory behind the argument stays as it is.
	spare := append(crowded(16), crowded(16)...)
	whole := bytes.Clone(spare)
	impl.DirAdd(spare[:512], entryOf("c", 4, 1))
	impl.DirRemove(spare[:512], numberedName(3))
	if !bytes.Equal(spare, whole) {
		t.Errorf("the memory behind the argument has been changed")
	}
}

// model is what a directory is to a user: a plain map from name to entry; and the
// slots that chapter 7 gives the names.
type model struct {
	entries map[string]impl.Dirent
	slots   []string
}

func (m *model) add(d impl.Dirent) int {
	if code := impl.CheckName(d.Name); code != impl.OK {
		return code
	}
	if d.Ino < 1 || d.Ino > 1000 || d.Kind < 1 || d.Kind > 3 {
		return impl.ErrInval
	}
	if _, there := m.entries[d.Name]; there {
		return impl.ErrExist
	}
	m.entries[d.Name] = d
	for at, name := range m.slots {
		if name == "" {
			m.slots[at] = d.Name
			return impl.OK
		}
	}
	m.slots = append(m.slots, d.Name)
	return impl.OK
}

func (m *model) remove(name string) int {
	if _, there := m.entries[name]; !there {
		return impl.ErrNoEnt
	}
	delete(m.entries, name)
	m.slots[slices.Index(m.slots, name)] = ""
	for n := len(m.slots); n > 0 && m.slots[n-1] == ""; n-- {
		m.slots = m.slots[:n-1]
	}
	return impl.OK
}

func (m *model) bytes() []byte {
	slots := [][]byte{}
	for _, name := range m.slots {
		if name == "" {
			slots = append(slots, nil)
		} else {
			slots = append(slots, slotOf(name, m.entries[name].Ino, m.entries[name].Kind))
		}
	}
	return dirOf(slots...)
}

func (m *model) list() []impl.Dirent {
	list := []impl.Dirent{}
	for _, d := range m.entries {
		list = append(list, d)
	}
	slices.SortFunc(list, func(a, b impl.Dirent) int { return bytes.Compare([]byte(a.Name), []byte(b.Name)) })
	return list
}

// step does one operation to the directory and to the model and holds them
// against each other.
func (m *model) step(t *testing.T, random *rand.Rand, content []byte, name string) []byte {
	t.Helper()
	d := entryOf(name, random.Intn(1005)-1, random.Intn(40))
	if d.Kind > 4 {
		d.Kind = 1 + d.Kind%3
	}
	given, before := content, bytes.Clone(content)
	switch what := random.Intn(10); {
	case what < 5:
		made, code := impl.DirAdd(content, d)
		if want := m.add(d); code != want {
			t.Fatalf("add %v: code %d, want %d", d, code, want)
		}
		if code == impl.OK {
			content = made
		}
	case what < 8:
		made, code := impl.DirRemove(content, name)
		if want := m.remove(name); code != want {
			t.Fatalf("remove %q: code %d, want %d", name, code, want)
		}
		if code == impl.OK {
			content = made
		}
	case what < 9:
		slot, got, code := impl.DirFind(content, name)
		if want, there := m.entries[name]; there != (code == impl.OK) || got != want || there && m.slots[slot] != name || !there && (code != impl.ErrNoEnt || slot != 0) {
			t.Fatalf("find %q: %d, %v, code %d, want %v", name, slot, got, code, want)
		}
	default:
		if list, code := impl.DirList(content); code != impl.OK || !slices.Equal(list, m.list()) {
			t.Fatalf("list: %v, code %d, want %v", list, code, m.list())
		}
	}
	if !bytes.Equal(content, m.bytes()) {
		t.Fatalf("%q: other bytes than the model's", name)
	}
	if code := impl.DirCheck(content); code != impl.OK || !bytes.Equal(given, before) {
		t.Fatalf("%q: code %d, or the argument has been changed", name, code)
	}
	return content
}

func TestADirectoryIsASetOfNames(t *testing.T) {
	for seed := range 12 {
		random := rand.New(rand.NewSource(int64(100 + seed)))
		m := &model{entries: map[string]impl.Dirent{}}
		content := []byte{}
		many := []int{5, 20, 60, 400}[seed%4]
		for range 1000 {
			name := []string{numberedName(random.Intn(many)), strings.Repeat("k", 1+random.Intn(28)), string([]byte{byte(random.Intn(256))})}[random.Intn(5)/2]
			content = m.step(t, random, content, name)
		}
		if list, code := impl.DirList(content); code != impl.OK || !slices.Equal(list, m.list()) {
			t.Errorf("seed %d: list: %d entries, code %d, want %d", seed, len(list), code, len(m.entries))
		}
		left := m.list()
		random.Shuffle(len(left), func(i, k int) { left[i], left[k] = left[k], left[i] })
		for _, d := range left {
			made, code := impl.DirRemove(content, d.Name)
			if m.remove(d.Name); code != impl.OK || !bytes.Equal(made, m.bytes()) {
				t.Fatalf("seed %d: remove %q: code %d", seed, d.Name, code)
			}
			content = made
		}
		if len(content) != 0 || len(m.entries) != 0 {
			t.Errorf("seed %d: %d bytes are left", seed, len(content))
		}
	}
}

// 500 names put in and taken out: first those that came first, or those that came
// last.
func TestDirectoriesGrowAndShrink(t *testing.T) {
	const many = 500
	for _, backwards := range []bool{false, true} {
		content := []byte{}
		for k := range many {
			made, code := impl.DirAdd(content, entryOf(numberedName(k), 1+k%1000, 1+k%3))
			if content = made; code != impl.OK || len(content) != 512*(k/16+1) {
				t.Fatalf("add %d: %d bytes, code %d", k, len(content), code)
			}
		}
		if !bytes.Equal(content, crowded(many)) {
			t.Fatalf("other bytes")
		}
		for k := range many {
			out, size := k, len(content)
			if backwards {
				out = many - 1 - k
				size = 512 * ((out + 15) / 16)
			}
			if k == many-1 {
				size = 0
			}
			made, code := impl.DirRemove(content, numberedName(out))
			if content = made; code != impl.OK || len(content) != size {
				t.Fatalf("remove %d: %d bytes, code %d, want %d", out, len(content), code, size)
			}
		}
	}
}
