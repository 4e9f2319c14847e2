package tests

import (
	"bytes"
	"fmt"
	"math/rand"
	"slices"
	"strings"
	"testing"

	"loop.example/s02533/impl"
)

// Each line of chapter 16's table with ordinary arguments, written out by hand.
func TestEachWordOfTheTable(t *testing.T) {
	list := map[string]impl.Op{
		"mkdir /d 755":         {Kind: impl.OpMkdir, Path: "/d", A: 493},
		"create /d/f 644":      {Kind: impl.OpCreate, Path: "/d/f", A: 420},
		"symlink /l d/f":       {Kind: impl.OpSymlink, Path: "/l", Path2: "d/f"},
		"link /d/f /h":         {Kind: impl.OpLink, Path: "/d/f", Path2: "/h"},
		"unlink /h":            {Kind: impl.OpUnlink, Path: "/h"},
		"rmdir /d":             {Kind: impl.OpRmdir, Path: "/d"},
		"rename /a /b":         {Kind: impl.OpRename, Path: "/a", Path2: "/b"},
		"write /d/f 12 hello":  {Kind: impl.OpWrite, Path: "/d/f", A: 12, Data: []byte("hello")},
		"truncate /d/f 3":      {Kind: impl.OpTruncate, Path: "/d/f", A: 3},
		"chmod /d 1777":        {Kind: impl.OpChmod, Path: "/d", A: 1023},
		"chown /d 5 6":         {Kind: impl.OpChown, Path: "/d", A: 5, B: 6},
		"read /d/f 7 4096":     {Kind: impl.OpRead, Path: "/d/f", A: 7, B: 4096},
		"readlink /l":          {Kind: impl.OpReadlink, Path: "/l"},
		"stat /l":              {Kind: impl.OpStat, Path: "/l"},
		"lstat /l":             {Kind: impl.OpLstat, Path: "/l"},
		"list /":               {Kind: impl.OpList, Path: "/"},
		"seek /d/f 600 1":      {Kind: impl.OpSeek, Path: "/d/f", A: 600, B: 1},
		"snap one":             {Kind: impl.OpSnapCreate, Path: "one"},
		"unsnap one":           {Kind: impl.OpSnapDelete, Path: "one"},
		"restore one":          {Kind: impl.OpSnapRestore, Path: "one"},
		"snaps":                {Kind: impl.OpSnapList},
		"cp":                   {Kind: impl.OpCp},
		"statfs":               {Kind: impl.OpStatfs},
		"send one two":         {Kind: impl.OpSend, Path: "one", Path2: "two"},
		"receive stream01%00z": {Kind: impl.OpReceive, Data: []byte("stream01\x00z")},
		"fuse 12":              {Kind: impl.OpFuse, A: 12},
		"crash 4 %ff%01":       {Kind: impl.OpCrash, A: 4, Data: []byte{255, 1}},
	}
	seen := map[int]bool{}
	for line, want := range list {
		parsesTo(t, line, want)
		seen[want.Kind] = true
	}
	if len(seen) != impl.OpCrash || len(list) != impl.OpCrash {
		t.Errorf("%d lines of %d kinds", len(list), len(seen))
	}
}

// wordFor is a word that is right for a letter of the table.
func wordFor(letter string) string {
	return map[string]string{"P": "/path", "Q": "other", "T": "bytes", "N": "17", "M": "640"}[letter]
}

// lineOf is the line of a row with right words, of which some are exchanged for others by
// their places behind the first.
func lineOf(r row, others map[int]string) string {
	line := r.word
	for k, letter := range r.letters {
		if word, found := others[k]; found {
			line += " " + word
		} else {
			line += " " + wordFor(letter)
		}
	}
	return line
}

// eachPlace calls for each place of the table at which one of these letters stands.
func eachPlace(letters string, at func(r row, place int)) {
	for _, r := range rows() {
		for place, letter := range r.letters {
			if strings.Contains(letters, letter) {
				at(r, place)
			}
		}
	}
}

// fieldAt is what a line's operation has from the word at a place.
func fieldAt(r row, place int, op impl.Op) any {
	switch r.letters[place] {
	case "P":
		return op.Path
	case "Q":
		return op.Path2
	case "T":
		return string(op.Data)
	}
	if place > 0 && r.letters[place-1] == "N" {
		return op.B
	}
	return op.A
}

// takes asks that a word is read as this, at a place.
func takes(t *testing.T, r row, place int, word string, want any) {
	t.Helper()
	line := lineOf(r, map[int]string{place: word})
	op, code := parses(t, line)
	if code != impl.OK || fieldAt(r, place, op) != want {
		t.Errorf("%.100q: %s, code %d, want %#v", line, tellOp(op), code, want)
	}
}

func TestNumbersOfWords(t *testing.T) {
	for _, r := range rows() {
		line := lineOf(r, nil)
		if _, code := parses(t, line); code != impl.OK {
			t.Errorf("%q: code %d", line, code)
		}
		for _, more := range []string{" 0", " -", " x", " %", " #", " " + r.word, strings.Repeat(" 1", 900), " \t"} {
			parsesWith(t, line+more, impl.ErrArgs)
		}
		parsesWith(t, r.word+" "+line, impl.ErrArgs)
		for n := range r.letters {
			parsesWith(t, strings.Join(strings.Fields(line)[:n+1], " "), impl.ErrArgs)
			parsesWith(t, strings.Join(strings.Fields(line)[:n+1], " ")+"   ", impl.ErrArgs)
		}
	}
}

// Of several faults the first one counts, by the order of the text and then from the left.
func TestWhichFaultOfALineIsTold(t *testing.T) {
	long := strings.Repeat(" ", impl.MaxLine)
	for line, want := range map[string]int{
		long + " ": impl.ErrLarge, "no" + long: impl.ErrLarge, "cp cp" + long: impl.ErrLarge, "fuse x" + long: impl.ErrLarge, "stat %" + long: impl.ErrLarge, strings.Repeat("x", impl.MaxLine+1): impl.ErrLarge, strings.Repeat("\xff", impl.MaxLine+1): impl.ErrLarge,
		"no": impl.ErrWord, "no %": impl.ErrWord, "no 01 x %": impl.ErrWord, "mkdirs /a x": impl.ErrWord, "%6dkdir %": impl.ErrWord, "mkfs": impl.ErrWord, "mkfs x": impl.ErrWord, "user": impl.ErrWord, "user x %": impl.ErrWord,
		"mkdir %": impl.ErrArgs, "mkdir % 9 9": impl.ErrArgs, "mkdir /a 9 9": impl.ErrArgs, "write / x": impl.ErrArgs, "write % x": impl.ErrArgs, "write % x % x": impl.ErrArgs, "cp %": impl.ErrArgs, "cp x": impl.ErrArgs, "fuse": impl.ErrArgs, "fuse x x": impl.ErrArgs, "fuse %zz 1": impl.ErrArgs, "receive % %": impl.ErrArgs, "receive": impl.ErrArgs, "crash x": impl.ErrArgs, "crash %": impl.ErrArgs,
		"mkdir % 9": impl.ErrHex, "mkdir /a 9": impl.ErrNumber, "mkdir % 7": impl.ErrHex, "mkdir \x80 8": impl.ErrHex, "mkdir %2 x": impl.ErrHex,
		"write % x %": impl.ErrHex, "write / x %": impl.ErrNumber, "write / 1 %": impl.ErrHex, "write % x x": impl.ErrHex, "write / x x": impl.ErrNumber, "write / 01 \x00": impl.ErrNumber,
		"read % x x": impl.ErrHex, "read / x %": impl.ErrNumber, "read / 1 %": impl.ErrNumber, "read / % 1": impl.ErrNumber, "read % % %": impl.ErrHex, "read /\x80 x 1": impl.ErrHex,
		"chown % -0 2": impl.ErrHex, "chown / -0 2": impl.ErrNumber, "chown / 0 -0": impl.ErrNumber, "seek %a x y": impl.ErrHex, "seek / x y": impl.ErrNumber, "truncate % x": impl.ErrHex, "truncate / x": impl.ErrNumber,
		"crash x %": impl.ErrNumber, "crash 1 %": impl.ErrHex, "crash x x": impl.ErrNumber, "crash % %": impl.ErrNumber, "crash -0 %GG": impl.ErrNumber,
		"rename % %": impl.ErrHex, "rename / %": impl.ErrHex, "rename % /": impl.ErrHex, "send %2 -": impl.ErrHex, "send - %2": impl.ErrHex, "symlink - \x7f": impl.ErrHex,
		"fuse %": impl.ErrNumber, "fuse \x80": impl.ErrNumber, "receive %": impl.ErrHex, "chmod % x": impl.ErrHex, "chmod x x": impl.ErrNumber, "create %f %f": impl.ErrHex, "create / %f": impl.ErrNumber,
	} {
		parsesWith(t, line, want)
	}
	// A number too many in front of a right line, and so on: every place of every line with
	// every sort of wrong word, alone and with each other place wrong too.
	bad := map[string][]string{"P": {"%", "\x01"}, "Q": {"%4", "\xff"}, "T": {"%4G", "a\tb"}, "N": {"x", "00", "%31", "-"}, "M": {"8", "0000000", "-1", "-"}}
	faults := map[string]int{"P": impl.ErrHex, "Q": impl.ErrHex, "T": impl.ErrHex, "N": impl.ErrNumber, "M": impl.ErrNumber}
	eachPlace("PQTNM", func(r row, place int) {
		for _, word := range bad[r.letters[place]] {
			parsesWith(t, lineOf(r, map[int]string{place: word}), faults[r.letters[place]])
			for other, letter := range r.letters {
				for _, second := range bad[letter] {
					if other > place {
						parsesWith(t, lineOf(r, map[int]string{place: word, other: second}), faults[r.letters[place]])
					}
				}
			}
		}
	})
}

// The edges of lines: their spaces, other white bytes, their length.
func TestLinesAndTheirSpaces(t *testing.T) {
	for _, line := range []string{"", " ", "  ", strings.Repeat(" ", impl.MaxLine), "\t", " \t ", "\n", "\r", "\x00", "\v", "\f", "\u00a0", "\u0085", "\u2003", "-", "%", "#", "# cp", "#cp", "cp#", "cp\n", "\ncp", "cp\r", "cp\t", "\tcp", "cp\x00", "cp ", "cp\u00a0", "0", "=", ":"} {
		want := impl.ErrWord
		if line == "cp " {
			want = impl.OK
		}
		if _, code := parses(t, line); code != want {
			t.Errorf("%q: code %d, want %d", line, code, want)
		}
	}
	mkdir := impl.Op{Kind: impl.OpMkdir, Path: "/d", A: 7}
	for _, line := range []string{"mkdir /d 7", " mkdir /d 7", "mkdir /d 7 ", "     mkdir /d 7     ", "mkdir   /d       7", "  mkdir  /d  7  ", " mkdir /d 7" + strings.Repeat(" ", impl.MaxLine-11), strings.Repeat(" ", impl.MaxLine-10) + "mkdir /d 7", "mkdir" + strings.Repeat(" ", impl.MaxLine-9) + "/d 7"} {
		parsesTo(t, line, mkdir)
	}
	for _, line := range []string{" mkdir /d 7" + strings.Repeat(" ", impl.MaxLine-10), strings.Repeat(" ", impl.MaxLine-9) + "mkdir /d 7", "mkdir" + strings.Repeat(" ", impl.MaxLine-8) + "/d 7", strings.Repeat(" ", impl.MaxLine+1), strings.Repeat("\x00", 100000)} {
		parsesWith(t, line, impl.ErrLarge)
	}
	for _, white := range []string{"\t", "\n", "\r", "\v", "\f", "\x00", "\u00a0"} {
		parsesWith(t, "mkdir"+white+"/d 7", impl.ErrWord)
		parsesWith(t, "mkdir /d"+white+"7", impl.ErrArgs)
		parsesWith(t, "mkdir /d"+white+" 7", impl.ErrHex)
		parsesWith(t, "mkdir /d 7"+white, impl.ErrNumber)
		parsesWith(t, "mkdir /d 7 "+white, impl.ErrArgs)
	}
	// Just MaxLine bytes, and one more, are words.
	parsesTo(t, "receive "+strings.Repeat("x", impl.MaxLine-8), impl.Op{Kind: impl.OpReceive, Data: bytes.Repeat([]byte("x"), impl.MaxLine-8)})
	parsesTo(t, "stat "+strings.Repeat("%00", 681), impl.Op{Kind: impl.OpStat, Path: strings.Repeat("\x00", 681)})
	parsesWith(t, "receive "+strings.Repeat("x", impl.MaxLine-7), impl.ErrLarge)
	parsesWith(t, strings.Repeat("x", impl.MaxLine), impl.ErrWord)
	parsesWith(t, strings.Repeat("x ", impl.MaxLine/2), impl.ErrWord)
	parsesWith(t, strings.Repeat("cp ", impl.MaxLine/3), impl.ErrArgs)
}

// The first word counts as it stands.
func TestFirstWords(t *testing.T) {
	for _, r := range rows() {
		rest := strings.TrimPrefix(lineOf(r, nil), r.word)
		wrong := []string{strings.ToUpper(r.word), strings.ToUpper(r.word[:1]) + r.word[1:], r.word + "x", "x" + r.word, r.word + "%", "%" + r.word, fmt.Sprintf("%%%02x%s", r.word[0], r.word[1:]), "#" + r.word, "-" + r.word, r.word + "-", "/" + r.word, r.word + "\x00", "\xff" + r.word, r.word + r.word, fmt.Sprint(r.kind)}
		for _, word := range wrong {
			parsesWith(t, word+rest, impl.ErrWord)
		}
		// A piece of a word is no such word, unless it is another one: snaps has snap in it.
		for k := 1; k < len(r.word); k++ {
			for _, word := range []string{r.word[:k], r.word[k:]} {
				if !slices.ContainsFunc(rows(), func(other row) bool { return other.word == word }) {
					parsesWith(t, word+rest, impl.ErrWord)
				}
			}
		}
	}
	for _, line := range []string{"mkfs 64 0 0", "user 0 0", "# stat /", "#", "format 64 0 0", "rm /a", "mv /a /b", "snapshot one", "delete /a", "quit", "OpCp", "recover"} {
		parsesWith(t, line, impl.ErrWord)
	}
}

func TestNumbersInLines(t *testing.T) {
	right := map[string]int{"0": 0, "1": 1, "-1": -1, "9": 9, "-9": -9, "10": 10, "-10": -10, "100": 100, "12345": 12345, "-70000": -70000, "2147483648": 1 << 31, "-4294967297": -1<<32 - 1,
		"100000000000000": 100000000000000, "999999999999999": 999999999999999, "-999999999999999": -999999999999999, "123456789012345": 123456789012345, "-123456789012345": -123456789012345, "-100000000000000": -100000000000000}
	wrong := []string{"-0", "00", "01", "-00", "-01", "000000000000001", "-", "--", "--1", "---1", "+1", "+0", "+", "-+1", "+-1", "1-", "1-1", "-1-", "1000000000000000", "-1000000000000000", "1234567890123456", "-1234567890123456", "9223372036854775808", strings.Repeat("9", 40), strings.Repeat("0", 15), strings.Repeat("0", 16),
		"x", "1x", "x1", "1_0", "0x1", "0b1", "0o7", "1e3", "1.0", "1,", "a", "f", "%31", "1%30", "#1", "\x001", "1\x00", "\xb2", "1\t", "\t1", "\u0661", "\uff11", "²", "0-", "0x", "NaN"}
	eachPlace("N", func(r row, place int) {
		for word, n := range right {
			takes(t, r, place, word, n)
		}
		for _, word := range wrong {
			parsesWith(t, lineOf(r, map[int]string{place: word}), impl.ErrNumber)
		}
		// A word of no bytes can't be: the line has one too few.
		parsesWith(t, lineOf(r, map[int]string{place: ""}), impl.ErrArgs)
		for b := range 256 {
			word := string([]byte{'1', byte(b), '2'})
			switch {
			case b == ' ':
				parsesWith(t, lineOf(r, map[int]string{place: word}), impl.ErrArgs)
			case b >= '0' && b <= '9':
				takes(t, r, place, word, 102+10*(b-'0'))
			default:
				parsesWith(t, lineOf(r, map[int]string{place: word}), impl.ErrNumber)
			}
		}
	})
}

func TestModesInLines(t *testing.T) {
	right := map[string]int{"0": 0, "1": 1, "7": 7, "00": 0, "000000": 0, "000007": 7, "10": 8, "010": 8, "755": 493, "0755": 493, "000755": 493, "7777": 4095, "10000": 4096, "777777": 262143, "100000": 32768, "123456": 42798, "765432": 256794}
	wrong := []string{"8", "9", "18", "81", "79", "778", "0000000", "1000000", "7777777", "0000001", "-", "-1", "-0", "-7", "+7", "0x7", "0o7", "0b1", "7_7", "x", "7x", "x7", "%37", "7%", "7.", "a", "\x007", "7\t", "7\xff", "\u0667", "7-", strings.Repeat("7", 30)}
	eachPlace("M", func(r row, place int) {
		for word, mode := range right {
			takes(t, r, place, word, mode)
		}
		for _, word := range wrong {
			parsesWith(t, lineOf(r, map[int]string{place: word}), impl.ErrNumber)
		}
		parsesWith(t, lineOf(r, map[int]string{place: ""}), impl.ErrArgs)
		for b := range 256 {
			word := string([]byte{byte(b)})
			switch {
			case b == ' ':
				parsesWith(t, lineOf(r, map[int]string{place: word}), impl.ErrArgs)
			case b >= '0' && b <= '7':
				takes(t, r, place, word, b-'0')
			default:
				parsesWith(t, lineOf(r, map[int]string{place: word}), impl.ErrNumber)
			}
		}
	})
}

// Text with every byte in it, at each place of each line, alone and between others.
func TestBytesOfTexts(t *testing.T) {
	eachPlace("PQT", func(r row, place int) {
		for b := range 256 {
			for _, around := range [][2]string{{"", ""}, {"x", ""}, {"", "y"}, {"/a", "b/"}, {"-", "-"}, {"%20", "%7e"}} {
				word := around[0] + string([]byte{byte(b)}) + around[1]
				line := lineOf(r, map[int]string{place: word})
				switch {
				case word == "-":
					takes(t, r, place, word, "")
				case b == ' ':
					parses(t, line)
				case b < 33 || b > 126 || b == '%':
					parsesWith(t, line, impl.ErrHex)
				default:
					parses(t, line)
					takes(t, r, place, word, string(plainUnescaped(word)))
				}
			}
		}
	})
}

func TestEscapesOfTexts(t *testing.T) {
	eachPlace("PQT", func(r row, place int) {
		all := ""
		for b := range 256 {
			low, great := fmt.Sprintf("%%%02x", b), fmt.Sprintf("%%%02X", b)
			all += low
			takes(t, r, place, low, string([]byte{byte(b)}))
			takes(t, r, place, "-"+low+"0", "-"+string([]byte{byte(b)})+"0")
			takes(t, r, place, low+low, string([]byte{byte(b), byte(b)}))
			if low != great {
				parsesWith(t, lineOf(r, map[int]string{place: great}), impl.ErrHex)
				parsesWith(t, lineOf(r, map[int]string{place: "ab" + great}), impl.ErrHex)
			}
			for _, digits := range []string{string([]byte{byte(b), '0'}), string([]byte{'0', byte(b)})} {
				isDigit := b >= '0' && b <= '9' || b >= 'a' && b <= 'f'
				if !isDigit && b != ' ' {
					parsesWith(t, lineOf(r, map[int]string{place: "%" + digits}), impl.ErrHex)
					parsesWith(t, lineOf(r, map[int]string{place: "/%" + digits + "41"}), impl.ErrHex)
				}
			}
		}
		takes(t, r, place, all, allBytes())
		for word, want := range map[string]string{"-": "", "--": "--", "%2d": "-", "%2d%2d": "--", "-x": "-x", "x-": "x-", "a-b": "a-b", "%2d-": "--", "%25": "%", "%2525": "%25", "%25%25": "%%", "%254": "%4", "%2541": "%41", "%41%42c": "ABc", "%00": "\x00", "%ff": "\xff", "%0a": "\n", "%20": " ", "%20-": " -", ":": ":", "=": "=", "#": "#", "~!": "~!", "%61f": "af", "%c3%a9": "é"} {
			takes(t, r, place, word, want)
		}
		for _, word := range []string{"%", "%%", "%2", "%a", "x%", "x%2", "%%20", "%2%0", "%2%30", "%20%", "%20%2", "%41%%", "-%", "%-1", "%+1", "%0x", "%g0", "%0g", "%A0", "%aA", "%fF", "%Ff", "%:0", "%/0", "%`0", "%@0", "é", "\x7f", "a\x80", "\xff%41", "%41\x1f", "%" + "\x00" + "0", "%4\xc3"} {
			parsesWith(t, lineOf(r, map[int]string{place: word}), impl.ErrHex)
		}
		// An escape doesn't reach into the next word.
		parsesWith(t, lineOf(r, map[int]string{place: "%2 0"}), impl.ErrArgs)
	})
}

// What another kind's fields would be stays zero, and who does it is nobody's but the
// script's to say.
func TestOtherFieldsOfALineAreZero(t *testing.T) {
	for _, r := range rows() {
		op, code := parses(t, lineOf(r, nil))
		if want := namedByTable(op); code != impl.OK || !sameOp(op, want) || op.Uid != 0 || op.Gid != 0 || op.Kind != r.kind {
			t.Errorf("%s: %s, code %d", r.word, tellOp(op), code)
		}
	}
}

// anyBytes is a text of all kinds of bytes.
func anyBytes(random *rand.Rand, most int) string {
	text := make([]byte, random.Intn(most))
	for k := range text {
		switch random.Intn(3) {
		case 0:
			text[k] = "-%: #/~!=09afAF\n\t\x00\x7f\xff"[random.Intn(20)]
		case 1:
			text[k] = byte(33 + random.Intn(94))
		default:
			text[k] = byte(random.Intn(256))
		}
	}
	return string(text)
}

// anyNumber has any number of digits that a line can have.
func anyNumber(random *rand.Rand) int {
	n := random.Intn(1000000000000000)
	for range random.Intn(16) {
		n /= 10
	}
	if random.Intn(3) == 0 {
		return -n
	}
	return n
}

// Promise 26's second half: an operation written by the rules is read back, of every kind.
func TestWrittenOperationsAreReadBack(t *testing.T) {
	random := rand.New(rand.NewSource(161))
	for _, r := range rows() {
		for round := range 1500 {
			op := namedByTable(impl.Op{Kind: r.kind, A: anyNumber(random), B: anyNumber(random), Path: anyBytes(random, 100), Path2: anyBytes(random, 100), Data: []byte(anyBytes(random, 100))})
			line := written(random, op)
			if round%2 == 0 {
				line = written(nil, op)
			}
			parsesTo(t, line, op)
			if t.Failed() {
				return
			}
		}
	}
}

// anyLine is a line that is nearly right.
func anyLine(random *rand.Rand) string {
	list := rows()
	r := list[random.Intn(len(list))]
	words := strings.Fields(lineOf(r, nil))
	for range random.Intn(4) {
		word := []string{"0", "-", "-0", "7", "8", "01", "755", "-12", "%", "%41", "%4", "%4G", "x", "/a/b", "1234567", "999999999999999", "1000000000000000", "#", "mkfs", "user", "cp", anyBytes(random, 5)}[random.Intn(22)]
		at := random.Intn(len(words))
		switch random.Intn(8) {
		case 0:
			words = append(words, word)
		case 1:
			words = words[:len(words)-1]
		case 2:
			words[at] += word
		default:
			if at > 0 {
				words[at] = word
			}
		}
		if len(words) == 0 {
			break
		}
	}
	line := strings.Join(words, strings.Repeat(" ", 1+random.Intn(2)))
	if line != "" && random.Intn(6) == 0 {
		b := []byte(line)
		b[random.Intn(len(b))] = byte(random.Intn(256))
		line = string(b)
	}
	if random.Intn(40) == 0 {
		line += strings.Repeat(" ", max(0, impl.MaxLine+random.Intn(5)-2-len(line)))
	}
	return line
}

func TestLinesAtRandom(t *testing.T) {
	random := rand.New(rand.NewSource(162))
	codes := map[int]int{}
	for range 60000 {
		_, code := parses(t, anyLine(random))
		codes[code]++
		if t.Failed() {
			return
		}
	}
	for _, code := range []int{impl.OK, impl.ErrWord, impl.ErrArgs, impl.ErrNumber, impl.ErrHex, impl.ErrLarge} {
		if codes[code] < 500 {
			t.Errorf("codes %v", codes)
		}
	}
}
