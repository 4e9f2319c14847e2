package tests

import (
	"bytes"
	"fmt"
	"math"
	"math/rand"
	"slices"
	"strings"
	"testing"

	"loop.example/s02533/impl"
)

// workedOp is the operation of chapter 12's example.
func workedOp() impl.Op {
	return impl.Op{Kind: 1, A: -2, B: 3, Uid: 4, Gid: 5, Path: "/a", Path2: "b", Data: []byte("xyz")}
}

// fullOp has all that an operation may have.
func fullOp() impl.Op {
	return impl.Op{Kind: 255, A: math.MinInt, B: math.MaxInt, Uid: impl.MaxId, Gid: impl.MaxId,
		Path: strings.Repeat("p", impl.MaxPath), Path2: strings.Repeat("q", impl.MaxPath), Data: bytes.Repeat([]byte{7}, impl.MaxIo)}
}

// allBytes has each byte once.
func allBytes() string {
	all := make([]byte, 256)
	for k := range all {
		all[k] = byte(k)
	}
	return string(all)
}

func changedOp(op impl.Op, how func(*impl.Op)) impl.Op {
	how(&op)
	return op
}

func TestWorkedExampleOfTheLog(t *testing.T) {
	want := "\x01" + "\xFE\xFF\xFF\xFF\xFF\xFF\xFF\xFF" + "\x03\x00\x00\x00\x00\x00\x00\x00" + "\x04\x00" + "\x05\x00" +
		"\x02\x00" + "/a" + "\x01\x00" + "b" + "\x03\x00\x00\x00" + "xyz"
	got, code := impl.EncodeOp(workedOp())
	if code != impl.OK || string(got) != want || len(want) != 35 {
		t.Errorf("% x, code %d", got, code)
	}
	back, code := impl.DecodeOp([]byte(want))
	if code != impl.OK || !sameOp(back, workedOp()) {
		t.Errorf("%s, code %d", tellOp(back), code)
	}
	op := impl.Op{Kind: impl.OpCreate, Path: "/a"}
	record, code := impl.LogRecord(1, op)
	if code != impl.OK || len(record) != 47 {
		t.Fatalf("a Create: %d bytes, code %d", len(record), code)
	}
	head := "\x01\x00\x00\x00\x00\x00\x00\x00" + "\x1F\x00\x00\x00"
	body := "\x02" + strings.Repeat("\x00", 20) + "\x02\x00/a" + strings.Repeat("\x00", 6)
	sum := impl.Crc32([]byte(head + body))
	whole := head + string([]byte{byte(sum), byte(sum >> 8), byte(sum >> 16), byte(sum >> 24)}) + body
	if string(record) != whole {
		t.Errorf("a Create: % x, want % x", record, whole)
	}
	if list := impl.LogScan(record); len(list) != 1 || list[0].Number != 1 || !sameOp(list[0].Op, op) {
		t.Errorf("a Create: %s", tellEntries(list))
	}
}

func TestNumbersOfOperations(t *testing.T) {
	for _, base := range []impl.Op{{}, workedOp(), fullOp()} {
		for _, kind := range []int{math.MinInt, -256, -255, -1, 0, 1, 27, 28, 127, 128, 254, 255, 256, 257, 511, math.MaxInt} {
			code := impl.OK
			if kind < 0 || kind > 255 {
				code = impl.ErrInval
			}
			laysOp(t, fmt.Sprint("Kind ", kind), changedOp(base, func(op *impl.Op) { op.Kind = kind }), code)
		}
		for _, n := range []int{math.MinInt, math.MinInt + 1, -1 << 40, -1 << 32, -65536, -256, -2, -1, 0, 1, 255, 256, 65536, 1 << 32, 1 << 40, math.MaxInt - 1, math.MaxInt} {
			laysOp(t, fmt.Sprint("A ", n), changedOp(base, func(op *impl.Op) { op.A = n }), impl.OK)
			laysOp(t, fmt.Sprint("B ", n), changedOp(base, func(op *impl.Op) { op.B = n }), impl.OK)
		}
		for _, id := range []int{math.MinInt, -65536, -65535, -1, 0, 1, 255, 256, impl.MaxId - 1, impl.MaxId, impl.MaxId + 1, impl.MaxId + 2, 1 << 32, math.MaxInt} {
			code := impl.OK
			if id < 0 || id > impl.MaxId {
				code = impl.ErrInval
			}
			laysOp(t, fmt.Sprint("Uid ", id), changedOp(base, func(op *impl.Op) { op.Uid = id }), code)
			laysOp(t, fmt.Sprint("Gid ", id), changedOp(base, func(op *impl.Op) { op.Gid = id }), code)
		}
	}
}

func TestTextsOfOperations(t *testing.T) {
	for _, base := range []impl.Op{{}, workedOp(), fullOp()} {
		for _, n := range []int{0, 1, 2, 255, 256, 257, impl.MaxPath - 1, impl.MaxPath, impl.MaxPath + 1, 1024, 65535, 65536, 65537, 65536 + 512} {
			code := impl.OK
			if n > impl.MaxPath {
				code = impl.ErrInval
			}
			text := strings.Repeat(allBytes(), n/256+1)[:n]
			laysOp(t, fmt.Sprint("Path of ", n), changedOp(base, func(op *impl.Op) { op.Path = text }), code)
			laysOp(t, fmt.Sprint("Path2 of ", n), changedOp(base, func(op *impl.Op) { op.Path2 = text }), code)
		}
		for _, n := range []int{0, 1, 255, 256, 4095, impl.MaxIo, impl.MaxIo + 1, 65536, 1 << 20} {
			code := impl.OK
			if n > impl.MaxIo {
				code = impl.ErrInval
			}
			data := []byte(strings.Repeat(allBytes(), n/256+1)[:n])
			laysOp(t, fmt.Sprint("Data of ", n), changedOp(base, func(op *impl.Op) { op.Data = data }), code)
		}
		for b := range 256 {
			text := strings.Repeat(string([]byte{byte(b)}), 3)
			laysOp(t, fmt.Sprint("bytes of value ", b), changedOp(base, func(op *impl.Op) { op.Path, op.Path2, op.Data = text, text[1:], []byte(text) }), impl.OK)
		}
	}
	laysOp(t, "empty Data", impl.Op{Data: []byte{}}, impl.OK)
}

// spoilers each make an operation one that a log can't hold, in the order of the text.
func spoilers() []func(*impl.Op) {
	return []func(*impl.Op){
		func(op *impl.Op) { op.Kind = 256 },
		func(op *impl.Op) { op.Uid = -1 },
		func(op *impl.Op) { op.Gid = impl.MaxId + 1 },
		func(op *impl.Op) { op.Path = strings.Repeat("x", impl.MaxPath+1) },
		func(op *impl.Op) { op.Path2 = strings.Repeat("x", impl.MaxPath+1) },
		func(op *impl.Op) { op.Data = make([]byte, impl.MaxIo+1) },
	}
}

// All sets of faults: the code is the same, and nothing else is told.
func TestFaultsOfOperationsTogether(t *testing.T) {
	for set := range 1 << len(spoilers()) {
		op, code := workedOp(), impl.OK
		for k, spoil := range spoilers() {
			if set>>k&1 == 1 {
				spoil(&op)
				code = impl.ErrInval
			}
		}
		name := fmt.Sprintf("faults %06b", set)
		laysOp(t, name, op, code)
		records(t, name, 1, op, code)
		for _, number := range []int{0, -1, impl.MaxClock + 1} {
			records(t, name, number, op, impl.ErrInval)
		}
	}
}

func TestOperationsCutShort(t *testing.T) {
	for _, op := range []impl.Op{{}, workedOp(), {Kind: impl.OpCreate, Path: "/a"}, {Path2: "abc"}, {Data: []byte{0}}, fullOp()} {
		b := plainOp(op)
		for k := range b {
			if len(b) > 100 && k > 40 && k < len(b)-5 && k%61 != 0 {
				continue
			}
			readsOp(t, fmt.Sprintf("%d of %d bytes", k, len(b)), b[:k], impl.ErrCorrupt)
		}
		readsOp(t, "whole", b, impl.OK)
		for _, more := range []string{"\x00", "\x01", "\xFF", "\x00\x00", string(b)} {
			readsOp(t, "bytes behind", append(bytes.Clone(b), more...), impl.ErrCorrupt)
		}
	}
	readsOp(t, "nil", nil, impl.ErrCorrupt)
	readsOp(t, "zeros, one short", make([]byte, 28), impl.ErrCorrupt)
	readsOp(t, "zeros", make([]byte, 29), impl.OK)
	readsOp(t, "zeros, one more", make([]byte, 30), impl.ErrCorrupt)
	readsOp(t, "many zeros", make([]byte, 1<<20), impl.ErrCorrupt)
}

// The lengths of an operation's bytes are changed, its texts aren't: Path's stands at
// 21, Path2's at 25, Data's at 28 in the worked example.
func TestLengthsThatDoNotFit(t *testing.T) {
	short := []int{0, 1, 2, 3, 4, 5, 8, 10, 255, 256, 512, 513, 32768, 65535}
	long := []int{0, 1, 2, 3, 4, 5, 35, 255, 256, 4096, 4097, 65535, 65536, 65536 + 3, 1 << 24, 1<<24 + 3, 1<<31 - 1, 1 << 31, 1<<31 + 3, 1<<32 - 3, 1<<32 - 1}
	right := plainOp(workedOp())
	for _, n := range short {
		for _, at := range []int{21, 25} {
			b := bytes.Clone(right)
			put16(b, at, n)
			code := impl.ErrCorrupt
			if bytes.Equal(b, right) {
				code = impl.OK
			}
			readsOp(t, fmt.Sprintf("the length at %d is %d", at, n), b, code)
		}
	}
	for _, n := range long {
		b := bytes.Clone(right)
		put32(b, 28, n)
		code := impl.ErrCorrupt
		if n == 3 {
			code = impl.OK
		}
		readsOp(t, fmt.Sprintf("the length at 28 is %d", n), b, code)
	}
	// All three lengths at once: any that fit each other are another operation.
	for path := range 12 {
		for path2 := range 12 {
			for data := range 12 {
				b := append(bytes.Clone(right[:21]), make([]byte, 14)...)
				put16(b, 21, path)
				if 23+path+2 <= len(b) {
					put16(b, 23+path, path2)
				}
				if 25+path+path2+4 <= len(b) {
					put32(b, 25+path+path2, data)
				}
				code := impl.ErrCorrupt
				if path+path2+data == 6 {
					code = impl.OK
				}
				readsOp(t, fmt.Sprint("lengths ", path, path2, data), b, code)
			}
		}
	}
}

// What stands there whole, but is longer than an operation may be.
func TestLengthsThatAreNotAllowed(t *testing.T) {
	for _, n := range []int{impl.MaxPath, impl.MaxPath + 1, 600, 65535} {
		code := impl.OK
		if n > impl.MaxPath {
			code = impl.ErrCorrupt
		}
		text := strings.Repeat("x", n)
		readsOp(t, fmt.Sprint("Path of ", n), plainOp(impl.Op{Kind: 1, Path: text}), code)
		readsOp(t, fmt.Sprint("Path2 of ", n), plainOp(impl.Op{Kind: 1, Path2: text}), code)
		readsOp(t, fmt.Sprint("both of ", n), plainOp(impl.Op{Kind: 1, Path: text, Path2: text, Data: []byte("d")}), code)
	}
	for _, n := range []int{impl.MaxIo, impl.MaxIo + 1, 5000, 65536 + 5, 1 << 20} {
		code := impl.OK
		if n > impl.MaxIo {
			code = impl.ErrCorrupt
		}
		readsOp(t, fmt.Sprint("Data of ", n), plainOp(impl.Op{Kind: 1, Path: "/a", Data: make([]byte, n)}), code)
	}
	both := plainOp(impl.Op{Path: strings.Repeat("x", impl.MaxPath+1), Data: make([]byte, impl.MaxIo+1)})
	readsOp(t, "two too long", both, impl.ErrCorrupt)
	readsOp(t, "two too long, and a byte behind", append(both, 0), impl.ErrCorrupt)
}

// Every byte of an operation takes every value.
func TestChangedBytesOfOperations(t *testing.T) {
	right := plainOp(workedOp())
	for at := range right {
		isLength := at == 21 || at == 22 || at == 25 || at == 26 || at >= 28 && at < 32
		for v := range 256 {
			b := bytes.Clone(right)
			b[at] = byte(v)
			code := impl.OK
			if isLength && b[at] != right[at] {
				code = impl.ErrCorrupt
			}
			readsOp(t, fmt.Sprintf("byte %d is %d", at, v), b, code)
		}
	}
}

func TestRecordNumbers(t *testing.T) {
	for _, op := range []impl.Op{{}, workedOp(), fullOp(), {Kind: impl.OpCreate, Path: "/a"}} {
		for _, number := range []int{math.MinInt, -impl.MaxClock, -1, 0, 1, 2, 255, 256, 1 << 32, impl.MaxClock - 1, impl.MaxClock, impl.MaxClock + 1, 1 << 62, math.MaxInt} {
			code, many := impl.OK, 1
			if number < 1 || number > impl.MaxClock {
				code, many = impl.ErrInval, 0
			}
			b := records(t, "record", number, op, code)
			scans(t, fmt.Sprint("the record of number ", number), b, many)
			scans(t, fmt.Sprint("number ", number, " laid down by hand"), plainRecord(number, op), many)
		}
	}
}

// chain is the records of operations, the first with the number from, and what is read
// of them.
func chain(t *testing.T, from int, ops ...impl.Op) ([]byte, []impl.LogEntry) {
	t.Helper()
	log, list := []byte{}, []impl.LogEntry{}
	for k, op := range ops {
		b, code := impl.LogRecord(from+k, op)
		if code != impl.OK {
			t.Fatalf("record %d: code %d", from+k, code)
		}
		log = append(log, b...)
		list = append(list, impl.LogEntry{Number: from + k, Op: op})
	}
	return log, list
}

// someOps are operations of all kinds of lengths.
func someOps() []impl.Op {
	return []impl.Op{workedOp(), {}, {Kind: impl.OpCreate, Path: "/a"}, {Kind: impl.OpWrite, Path: "/a", A: -1, Data: []byte("\x00\xFF")}, {Kind: 255, Path2: allBytes()}}
}

func TestRecordsAreGivenBack(t *testing.T) {
	many := slices.Repeat([]impl.Op{fullOp()}, 20)
	for _, from := range []int{1, 2, 255, 256, 65535, 1<<32 - 2, impl.MaxClock - 30} {
		for n := range len(someOps()) + 1 {
			log, want := chain(t, from, someOps()[:n]...)
			got := scans(t, fmt.Sprintf("%d records from %d", n, from), log, n)
			if !sameEntries(got, want) {
				t.Errorf("%d records from %d: %s", n, from, tellEntries(got))
			}
		}
		log, want := chain(t, from, many...)
		if len(log) <= impl.MaxLog {
			t.Fatalf("a log of %d bytes", len(log))
		}
		if got := scans(t, "a log longer than any volume's", log, len(many)); !sameEntries(got, want) {
			t.Errorf("a long log from %d: %s", from, tellEntries(got))
		}
	}
	last, _ := chain(t, impl.MaxClock-4, someOps()...)
	scans(t, "up to MaxClock", last, 5)
	scans(t, "nil", nil, 0)
	scans(t, "no bytes", []byte{}, 0)
}

func TestLogsCutShort(t *testing.T) {
	for n := 1; n <= len(someOps()); n++ {
		ahead, _ := chain(t, 7, someOps()[:n-1]...)
		log, _ := chain(t, 7, someOps()[:n]...)
		for k := len(ahead); k < len(log); k++ {
			scans(t, fmt.Sprintf("%d records, %d bytes of %d", n, k, len(log)), log[:k], n-1)
		}
		scans(t, fmt.Sprintf("%d records", n), log, n)
	}
}

// One bit is changed: the records ahead of it are read, and none from it on, though
// those behind it are whole.
func TestChangedBitsOfRecords(t *testing.T) {
	first, _ := chain(t, 7, workedOp())
	log, _ := chain(t, 7, workedOp(), impl.Op{Kind: impl.OpCreate, Path: "/a"}, workedOp())
	for at := range len(first) + 47 {
		for bit := range 8 {
			b := bytes.Clone(log)
			b[at] ^= 1 << bit
			many := 0
			if at >= len(first) {
				many = 1
			}
			scans(t, fmt.Sprintf("bit %d of byte %d", bit, at), b, many)
		}
	}
}

// bodies are bytes that aren't an operation's.
func bodies() map[string][]byte {
	right := plainOp(workedOp())
	great := bytes.Clone(right)
	put32(great, 28, 1<<32-1)
	return map[string][]byte{
		"no bytes":          {},
		"one byte":          {2},
		"cut short":         right[:len(right)-1],
		"one byte more":     append(bytes.Clone(right), 0),
		"two operations":    append(bytes.Clone(right), right...),
		"a great length":    great,
		"a long path":       plainOp(impl.Op{Path: strings.Repeat("x", impl.MaxPath+1)}),
		"a long path2":      plainOp(impl.Op{Path2: strings.Repeat("x", impl.MaxPath+1)}),
		"long data":         plainOp(impl.Op{Data: make([]byte, impl.MaxIo+1)}),
		"a record":          plainRecord(2, workedOp()),
		"zeros, one short":  make([]byte, 28),
		"zeros, many":       make([]byte, 4096),
		"all kinds of them": []byte(allBytes()),
	}
}

func TestRightSumsOfWrongOperations(t *testing.T) {
	ahead, _ := chain(t, 1, someOps()...)
	behind := plainRecord(2, workedOp())
	for name, body := range bodies() {
		wrong := sealedRecord(1, body)
		scans(t, name+": alone", wrong, 0)
		scans(t, name+": with a right one behind", append(bytes.Clone(wrong), behind...), 0)
		wrong = sealedRecord(uint64(1+len(someOps())), body)
		log := append(bytes.Clone(ahead), wrong...)
		scans(t, name+": behind right ones", log, len(someOps()))
		scans(t, name+": among right ones", append(log, plainRecord(2+len(someOps()), workedOp())...), len(someOps()))
	}
	scans(t, "kinds that no volume has", append(plainRecord(1, impl.Op{Kind: 0}), plainRecord(2, impl.Op{Kind: 200})...), 2)
}

// sealedLog is records of these numbers, all of them whole and with right sums.
func sealedLog(numbers ...uint64) []byte {
	log := []byte{}
	for k, number := range numbers {
		log = append(log, sealedRecord(number, plainOp(someOps()[k%len(someOps())]))...)
	}
	return log
}

func TestNumbersThatDoNotFollow(t *testing.T) {
	const most = impl.MaxClock
	for _, c := range []struct {
		numbers []uint64
		many    int
	}{
		{[]uint64{1, 2, 3}, 3},
		{[]uint64{5, 6}, 2},
		{[]uint64{1, 1}, 1},
		{[]uint64{1, 2, 2, 3}, 2},
		{[]uint64{2, 1}, 1},
		{[]uint64{9, 10, 9, 10, 11}, 2},
		{[]uint64{1, 3}, 1},
		{[]uint64{1, 2, 4, 5}, 2},
		{[]uint64{1, 2, 4, 3}, 2},
		{[]uint64{7, 0}, 1},
		{[]uint64{1, 0}, 1},
		{[]uint64{0}, 0},
		{[]uint64{0, 1}, 0},
		{[]uint64{0, 1, 2}, 0},
		{[]uint64{255, 256}, 2},
		{[]uint64{255, 0}, 1},
		{[]uint64{1, 2 + 1<<32}, 1},
		{[]uint64{1, 2 + 1<<63}, 1},
		{[]uint64{1<<32 - 1, 1 << 32}, 2},
		{[]uint64{1<<32 - 1, 0}, 1},
		{[]uint64{most - 1, most}, 2},
		{[]uint64{most}, 1},
		{[]uint64{most, most + 1}, 1},
		{[]uint64{most - 1, most, most + 1, most + 2}, 2},
		{[]uint64{most, 1}, 1},
		{[]uint64{most, 0}, 1},
		{[]uint64{most + 1}, 0},
		{[]uint64{most + 1, most + 2}, 0},
		{[]uint64{most + 1, 1}, 0},
		{[]uint64{math.MaxInt64}, 0},
		{[]uint64{math.MaxInt64, 1 << 63}, 0},
		{[]uint64{1 << 63, 1<<63 + 1}, 0},
		{[]uint64{1<<63 + 1}, 0},
		{[]uint64{math.MaxUint64}, 0},
		{[]uint64{math.MaxUint64, 0, 1}, 0},
	} {
		scans(t, fmt.Sprint("numbers ", c.numbers), sealedLog(c.numbers...), c.many)
	}
}

func TestLengthsOfRecords(t *testing.T) {
	for many, ahead := range [][]byte{nil, sealedLog(1), sealedLog(1, 2)} {
		for _, n := range []int{0, 1, 28, 29, 30, 31, 32, 34, 36, 47, 300, 1 << 16, 1 << 24, 1<<31 - 1, 1 << 31, 1<<32 - 17, 1<<32 - 16, 1<<32 - 1} {
			b := plainRecord(many+1, impl.Op{Kind: impl.OpCreate, Path: "/a"})
			put32(b, 8, n)
			read := many
			if n == 31 {
				read++
			}
			scans(t, fmt.Sprintf("length %d behind %d", n, many), slices.Concat(ahead, b), read)
			scans(t, fmt.Sprintf("length %d behind %d, more behind it", n, many), slices.Concat(ahead, b, make([]byte, 400)), read)
		}
	}
}

func TestBytesBehindRecords(t *testing.T) {
	random := rand.New(rand.NewSource(12))
	ahead, want := chain(t, 41, someOps()...)
	n := len(someOps())
	noise := make([]byte, 300)
	random.Read(noise)
	next := plainRecord(41+n, workedOp())
	broken := bytes.Clone(next)
	broken[len(broken)-1] ^= 1
	for name, behind := range map[string][]byte{
		"a zero":                         {0},
		"zeros":                          make([]byte, 600),
		"ones":                           bytes.Repeat([]byte{255}, 600),
		"noise":                          noise,
		"the next record, cut short":     next[:len(next)-1],
		"the next record, its head":      next[:16],
		"a changed bit and a right one":  append(bytes.Clone(broken), next...),
		"the same number again":          plainRecord(40+n, workedOp()),
		"the first number":               plainRecord(41, workedOp()),
		"one number left out":            plainRecord(42+n, workedOp()),
		"one left out and the right one": append(plainRecord(42+n, workedOp()), next...),
		"number 0 and the right one":     append(plainRecord(0, workedOp()), next...),
		"a byte and the right one":       append([]byte{0}, next...),
		"the whole log":                  bytes.Clone(ahead),
	} {
		if got := scans(t, name, slices.Concat(ahead, behind), n); !sameEntries(got, want) {
			t.Errorf("%s: %s", name, tellEntries(got))
		}
		scans(t, name+", without records", behind, len(plainScan(behind)))
	}
	scans(t, "the next record", slices.Concat(ahead, next), n+1)
	scans(t, "the next record, and noise", slices.Concat(ahead, next, noise), n+1)
}

func TestDropping(t *testing.T) {
	log, _ := chain(t, 7, someOps()[:3]...)
	one, _ := chain(t, 7, someOps()[:1]...)
	two, _ := chain(t, 7, someOps()[:2]...)
	for _, c := range []struct{ upto, from int }{
		{math.MinInt, 0}, {-7, 0}, {-1, 0}, {0, 0}, {1, 0}, {5, 0}, {6, 0}, {7, len(one)}, {8, len(two)}, {9, len(log)}, {10, len(log)},
		{impl.MaxClock, len(log)}, {impl.MaxClock + 1, len(log)}, {math.MaxInt, len(log)},
	} {
		if got := impl.LogDrop(log, c.upto); !bytes.Equal(got, log[c.from:]) {
			t.Errorf("up to %d: %d bytes, want %d", c.upto, len(got), len(log)-c.from)
		}
		for _, behind := range []string{"\x00", "some bytes", string(plainRecord(7, workedOp())), string(plainRecord(11, workedOp())), string(log)} {
			if got := impl.LogDrop([]byte(string(log)+behind), c.upto); !bytes.Equal(got, log[c.from:]) {
				t.Errorf("up to %d, %d bytes behind: %d bytes, want %d", c.upto, len(behind), len(got), len(log)-c.from)
			}
		}
		for _, empty := range [][]byte{nil, {}, {1, 2, 3}, plainRecord(0, workedOp()), log[1:]} {
			if got := impl.LogDrop(empty, c.upto); len(got) != 0 {
				t.Errorf("up to %d of no records: %d bytes", c.upto, len(got))
			}
		}
	}
	last, _ := chain(t, impl.MaxClock, workedOp())
	if got := impl.LogDrop(last, impl.MaxClock-1); !bytes.Equal(got, last) {
		t.Errorf("the last number: %d bytes", len(got))
	}
	if got := impl.LogDrop(last, impl.MaxClock); len(got) != 0 {
		t.Errorf("up to the last number: %d bytes", len(got))
	}
}

// What is left is a log again, of just the entries above the number.
func TestDroppingTwice(t *testing.T) {
	log, want := chain(t, 7, someOps()...)
	for first := 5; first < 14; first++ {
		once := impl.LogDrop(append(bytes.Clone(log), 1, 2, 3), first)
		from := min(max(first-6, 0), len(want))
		if got := impl.LogScan(once); !sameEntries(got, want[from:]) {
			t.Errorf("above %d: %s", first, tellEntries(got))
		}
		for second := 5; second < 14; second++ {
			if twice := impl.LogDrop(once, second); !bytes.Equal(twice, impl.LogDrop(log, max(first, second))) {
				t.Errorf("above %d and %d: %d bytes", first, second, len(twice))
			}
		}
	}
}

// looseOp is any operation that a log may hold.
func looseOp(random *rand.Rand) impl.Op {
	text := func(most int) []byte {
		b := make([]byte, []int{0, random.Intn(5), random.Intn(40), random.Intn(most + 1)}[random.Intn(4)])
		random.Read(b)
		return b
	}
	return impl.Op{Kind: random.Intn(256), A: int(random.Uint64()), B: random.Intn(9) - 4, Uid: random.Intn(65536), Gid: random.Intn(3),
		Path: string(text(impl.MaxPath)), Path2: string(text(impl.MaxPath)), Data: text(impl.MaxIo)}
}

// hurtLog changes a byte, cuts bytes off, takes some out or puts some in.
func hurtLog(random *rand.Rand, log []byte) []byte {
	at := random.Intn(len(log) + 1)
	to := min(len(log), at+random.Intn(60))
	switch random.Intn(5) {
	case 0:
		return log[:at]
	case 1:
		return slices.Concat(log[:at], log[to:])
	case 2:
		return slices.Concat(log[:to], log[at:])
	case 3:
		return slices.Concat(log[:at], []byte{byte(random.Intn(256))}, log[at:])
	}
	hurt := append(bytes.Clone(log), 0)
	hurt[at] ^= byte(1 + random.Intn(255))
	return hurt
}

func TestLogsAtRandom(t *testing.T) {
	t.Parallel()
	random := rand.New(rand.NewSource(14))
	for range 400 {
		ops := make([]impl.Op, random.Intn(6))
		for k := range ops {
			ops[k] = looseOp(random)
			laysOp(t, "any operation", ops[k], impl.OK)
		}
		log, want := chain(t, 1+random.Intn(1000), ops...)
		if got := scans(t, "any log", log, len(ops)); !sameEntries(got, want) {
			t.Errorf("any log: %s", tellEntries(got))
		}
		noise := make([]byte, random.Intn(90))
		random.Read(noise)
		if got := impl.LogScan(append(bytes.Clone(log), noise...)); len(got) < len(want) || !sameEntries(got[:len(want)], want) {
			t.Errorf("any bytes behind: %s", tellEntries(got))
		}
		for range 8 {
			hurt := hurtLog(random, log)
			scans(t, "a hurt log", hurt, len(plainScan(hurt)))
		}
		if len(ops) > 0 {
			b := hurtLog(random, plainOp(ops[0]))
			_, code := plainReadOp(b)
			readsOp(t, "a hurt operation", b, code)
		}
	}
}
