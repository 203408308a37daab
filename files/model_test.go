package files_test

import (
	"fmt"
	"math/rand/v2"
	"regexp"
	"slices"
	"strings"
	"testing"

	"ferrule/api"
	"ferrule/files"
)

// sum is what the values of bytes are together, modulo 95.
func sum(bytes string) int {
	n := 0
	for i := range len(bytes) {
		n += int(bytes[i]) - 32
	}
	return n % 95
}

// sealed is a block of any rows that are as long as each other, with all checks.
func sealed(rows ...string) string {
	var lines []string
	for _, row := range rows {
		lines = append(lines, row+string(rune(32+sum(row))))
	}
	last := ""
	for i := range len(lines[0]) {
		column := ""
		for _, line := range lines {
			column += line[i : i+1]
		}
		last += string(rune(32 + sum(column)))
	}
	return strings.Join(append(lines, last), "\n") + "\n\n"
}

// isText tells whether something is a text, byte by byte.
func isText(text string) bool {
	for i := range len(text) {
		if text[i] < 32 || text[i] > 126 {
			return false
		}
	}
	return len(text) <= 60
}

func modelWrite(texts []string) (string, api.Errno) {
	if len(texts) > 40 {
		return "", api.ErrMany
	}
	file := ""
	for begin := 0; begin < len(texts); begin += 8 {
		part := texts[begin:min(begin+8, len(texts))]
		wide := 0
		for _, text := range part {
			wide = max(wide, len(text))
		}
		var rows []string
		for _, text := range part {
			if !isText(text) {
				return "", api.ErrArg
			}
			rows = append(rows, fmt.Sprintf("%c%-*s", 32+len(text), wide, text))
		}
		file += sealed(rows...)
	}
	return file, api.OK
}

// firstBlock is a block at the beginning of a file, whose lines can differ in length.
var firstBlock = regexp.MustCompile(`\A(?:[ -~]{2,62}\n){2,9}\n`)

// modelBlock is a block of a file: its lines, how it is (0 whole, 1 mended, 2 neither), and the line and the column of the mended byte.
type modelBlock struct {
	lines             []string
	is, line, column  int
	begin, lineLength int
}

func modelCut(file string) ([]modelBlock, bool) {
	var blocks []modelBlock
	for begin := 0; begin < len(file); {
		found := firstBlock.FindString(file[begin:])
		lines := strings.Fields(strings.ReplaceAll(found, " ", "\x01")) // blanks are no ends of lines
		for i := range lines {
			lines[i] = strings.ReplaceAll(lines[i], "\x01", " ")
			if len(lines[i]) != len(lines[0]) {
				return nil, false
			}
		}
		if found == "" {
			return nil, false
		}
		blocks = append(blocks, modelMended(modelBlock{lines: lines, begin: begin, lineLength: len(lines[0]) + 1}))
		begin += len(found)
	}
	return blocks, true
}

// modelMended finds out how a block is by how much each sum is wrong.
func modelMended(b modelBlock) modelBlock {
	var lines, columns [][2]int
	for i, line := range b.lines {
		if wrong := sum(line[len(line)-1:]) - sum(line[:len(line)-1]); wrong != 0 {
			lines = append(lines, [2]int{i, wrong})
		}
	}
	for i := range b.lines[0] {
		if wrong := b.columnWrong(i); wrong != 0 {
			columns = append(columns, [2]int{i, wrong})
		}
	}
	if len(lines)+len(columns) == 0 {
		return b
	}
	b.is = 2
	if len(lines) != 1 || len(columns) != 1 {
		return b
	}
	b.line, b.column = lines[0][0], columns[0][0]
	wrong := lines[0][1]
	if b.column == len(b.lines[0])-1 {
		wrong = -wrong
	}
	b.lines = slices.Clone(b.lines)
	row := []byte(b.lines[b.line])
	row[b.column] = byte(32 + (int(row[b.column])-32+wrong+2*95)%95)
	b.lines[b.line] = string(row)
	if b.columnWrong(b.column) == 0 {
		b.is = 1
	}
	return b
}

func (b modelBlock) columnWrong(column int) int {
	all := ""
	for _, line := range b.lines {
		all += line[column : column+1]
	}
	return sum(all[len(all)-1:]) - sum(all[:len(all)-1])
}

// place is where the mended byte is, counted from the first byte of the file.
func (b modelBlock) place() int {
	if b.is == 0 {
		return -1
	}
	return b.begin + b.line*b.lineLength + b.column
}

// modelTexts reads the texts of blocks that are whole by what a file must be.
func modelTexts(blocks []modelBlock) ([]string, api.Errno) {
	var texts []string
	for i, b := range blocks {
		rows := b.lines[:len(b.lines)-1]
		longest := 0
		for _, row := range rows {
			wide, long := len(row)-2, int(row[0])-32
			if long > wide || strings.Trim(row[1+long:1+wide], " ") != "" {
				return nil, api.ErrForm
			}
			texts = append(texts, row[1:1+long])
			longest = max(longest, long)
		}
		if longest+3 != b.lineLength || len(rows) < 8 && i < len(blocks)-1 {
			return nil, api.ErrForm
		}
	}
	if len(texts) > 40 {
		return nil, api.ErrForm
	}
	return texts, api.OK
}

// modelRead is what Read and Damage return of a file.
func modelRead(file string) (texts []string, mended, places []int, e api.Errno) {
	blocks, ok := modelCut(file)
	if !ok {
		return nil, nil, nil, api.ErrText
	}
	for i, b := range blocks {
		if b.is == 2 {
			return nil, nil, nil, api.ErrBlock
		}
		if b.is == 1 {
			mended = append(mended, i)
		}
		places = append(places, b.place())
	}
	if texts, e = modelTexts(blocks); e != api.OK {
		return nil, nil, nil, e
	}
	return texts, mended, places, api.OK
}

func modelCheck(file string) (int, int, api.Errno) {
	blocks, ok := modelCut(file)
	if !ok {
		return 0, 0, api.ErrText
	}
	damaged := 0
	for _, b := range blocks {
		damaged += min(b.is, 1)
	}
	return len(blocks), damaged, api.OK
}

func modelJoin(a, b string) ([]string, api.Errno) {
	first, ok := modelCut(a)
	second, also := modelCut(b)
	if !ok || !also || len(first) != len(second) {
		return nil, api.ErrText
	}
	for i := range first {
		if first[i].is == 2 && second[i].is == 2 {
			return nil, api.ErrBlock
		}
		if first[i].is < 2 && second[i].is < 2 && !slices.Equal(first[i].lines, second[i].lines) {
			return nil, api.ErrCopies
		}
		if first[i].is == 2 {
			first[i] = second[i]
		}
	}
	return modelTexts(first)
}

// wantModel wants that all that is asked of a file is as the model says, and returns the error of Read.
func wantModel(t *testing.T, file string) api.Errno {
	t.Helper()
	texts, mended, places, e := modelRead(file)
	if is, m, f := files.Read(file); !slices.Equal(is, texts) || !slices.Equal(m, mended) || f != e {
		t.Fatalf("Read of %q = %q, %v, error %d; want %q, %v, %d", file, is, m, f, texts, mended, e)
	}
	if is, f := files.Damage(file); !slices.Equal(is, places) || f != e {
		t.Fatalf("Damage of %q = %v, error %d; want %v, %d", file, is, f, places, e)
	}
	n, k, g := modelCheck(file)
	if blocks, damaged, f := files.Check(file); blocks != n || damaged != k || f != g {
		t.Fatalf("Check of %q = %d, %d, error %d; want %d, %d, %d", file, blocks, damaged, f, n, k, g)
	}
	return e
}

// wantJoin wants that two copies are joined as the model says, and returns the error.
func wantJoin(t *testing.T, a, b string) api.Errno {
	t.Helper()
	texts, e := modelJoin(a, b)
	if is, f := files.Join(a, b); !slices.Equal(is, texts) || f != e {
		t.Fatalf("Join of %q, %q = %q, error %d; want %q, %d", a, b, is, f, texts, e)
	}
	return e
}

// random draws texts and files, always the same ones.
type random struct{ *rand.Rand }

func newRandom(seed uint64) random { return random{rand.New(rand.NewPCG(seed, 14))} }

func (x random) from(low, high int) int { return low + x.IntN(high-low+1) }

// letters are bytes of a text, at each end of all and between.
const letters = "   !~}az09"

func (x random) letter() byte {
	if x.IntN(2) == 0 {
		return letters[x.IntN(len(letters))]
	}
	return byte(x.from(32, 126))
}

// bytes are so many bytes of a text.
func (x random) bytes(long int) string {
	var b []byte
	for range long {
		b = append(b, x.letter())
	}
	return string(b)
}

// upTo is a number up to another one, which it often is.
func (x random) upTo(n int) int {
	if x.IntN(4) == 0 {
		return n
	}
	return x.from(0, n)
}

// texts are at most so many texts of at most so many bytes.
func (x random) texts(many, long int) []string {
	var texts []string
	for range x.upTo(many) {
		texts = append(texts, x.bytes(x.upTo(long)))
	}
	return texts
}

// some are few or many texts, short or long ones.
func (x random) some() []string {
	long := []int{0, 1, 2, 5, 20, 59, 60}[x.IntN(7)]
	return x.texts([]int{1, 2, 7, 8, 9, 16, 17, 39, 40}[x.IntN(9)], long)
}

// changed is a file with a byte at a place changed to another one of a text.
func (x random) changed(file string, at int) string {
	b := []byte(file)
	for b[at] == file[at] {
		b[at] = x.letter()
	}
	return string(b)
}

// hit is a file of which up to so many bytes of each block are changed, but no line feed, and where they were.
func (x random) hit(file string, least, most int) (string, []int) {
	var places []int
	begin := 0
	for _, part := range strings.SplitAfter(file, "\n\n") {
		var all []int
		for i := range len(part) {
			if part[i] != '\n' {
				all = append(all, begin+i)
			}
		}
		x.Shuffle(len(all), func(i, k int) { all[i], all[k] = all[k], all[i] })
		if len(all) > 0 {
			places = append(places, all[:x.from(least, min(most, len(all)))]...)
		}
		begin += len(part)
	}
	for _, at := range places {
		file = x.changed(file, at)
	}
	return file, places
}

// damaged is a file in which anything was changed.
func (x random) damaged(file string) string {
	if file == "" {
		return x.bytes(x.from(0, 3))
	}
	at := x.IntN(len(file))
	end := min(len(file), at+x.from(0, 6))
	lines := strings.SplitAfter(file, "\n")
	switch i := x.IntN(len(lines)); x.IntN(9) {
	case 0:
		return put(file, at, x.IntN(256))
	case 1:
		return file[:at] + file[end:]
	case 2:
		return file[:at] + []string{"\n", "\n\n", " ", "\x1f", "é", x.bytes(3)}[x.IntN(6)] + file[at:]
	case 3:
		return strings.Join(slices.Delete(lines, i, i+1), "")
	case 4:
		return strings.Join(slices.Insert(lines, i, lines[x.IntN(len(lines))]), "")
	case 5:
		return file[:at]
	case 6:
		return file + x.made()
	case 7:
		return x.made() + file
	}
	file, _ = x.hit(file, 0, x.from(1, 3))
	return file
}

// row is a row without its check, now and then one that is in no file.
func (x random) row(wide int) string {
	long := x.from(max(0, wide-1), wide)
	behind := strings.Repeat(" ", wide-long)
	switch x.IntN(40) {
	case 0:
		behind = x.bytes(wide - long)
	case 1:
		return x.bytes(1) + x.bytes(wide)
	case 2:
		return string(rune(32+long+1)) + x.bytes(long) + behind
	}
	return string(rune(32+long)) + x.bytes(long) + behind
}

// made is a file of blocks that are whole, but need not be those of a file.
func (x random) made() string {
	file := ""
	for range x.from(0, 4) * x.IntN(3) / 2 {
		file += x.block(8)
	}
	return file + x.block(x.from(1, 8))
}

func (x random) block(many int) string {
	var rows []string
	wide := []int{0, 0, 1, 2, 3, 20, 60}[x.IntN(7)]
	for range many {
		rows = append(rows, x.row(wide))
	}
	return sealed(rows...)
}

// file is any file.
func (x random) file() string {
	var file string
	switch x.IntN(4) {
	case 0:
		file = x.made()
	default:
		file, _ = files.Write(x.some())
	}
	switch x.IntN(4) {
	case 0:
		file, _ = x.hit(file, 0, 1)
	case 1, 2:
		file = x.damaged(file)
	}
	return file
}

// count counts what was met.
func count(met map[string]int, all map[string]bool) {
	for name, is := range all {
		if is {
			met[name]++
		}
	}
}

// wantMet wants that each of these was met a number of times at the least.
func wantMet(t *testing.T, met map[string]int, least int, names ...string) {
	t.Helper()
	for _, name := range names {
		if met[name] < least {
			t.Errorf("%s: %d", name, met[name])
		}
	}
}

func TestModelWrite(t *testing.T) {
	x := newRandom(1)
	met := map[string]int{}
	for range 4000 {
		texts := x.some()
		switch {
		case x.IntN(9) == 0 && len(texts) > 0:
			texts[x.IntN(len(texts))] += []string{"\x1f", "\x7f", "\n", "é", "\xff", strings.Repeat("a", 60)}[x.IntN(6)]
		case x.IntN(9) == 0:
			texts = append(texts, make([]string, x.from(39, 42)-min(39, len(texts)))...)
		}
		want, e := modelWrite(texts)
		if file, f := files.Write(texts); file != want || f != e {
			t.Fatalf("Write of %q = %q, error %d; want %q, %d", texts, file, f, want, e)
		}
		count(met, map[string]bool{fmt.Sprint("error ", e): true, "many blocks": strings.Count(want, "\n\n") > 3, "wide": strings.Contains(want, "\n\\")})
	}
	wantMet(t, met, 50, "error 0", "error 1", "error 2", "many blocks", "wide")
}

func TestModelRead(t *testing.T) {
	x := newRandom(2)
	met := map[string]int{}
	for range 30000 {
		file := x.file()
		e := wantModel(t, file)
		_, mended, _ := files.Read(file)
		blocks, damaged, _ := files.Check(file)
		count(met, map[string]bool{fmt.Sprint("error ", e): true, "mended": len(mended) == 1, "more mended": len(mended) > 1, "damaged": damaged == 1, "more damaged": damaged > 1, "many blocks": blocks > 3})
	}
	wantMet(t, met, 500, "error 0", "error 140", "error 141", "error 142", "mended", "more mended", "damaged", "more damaged", "many blocks")
}

// Small blocks of any bytes meet all that can fail in them.
func TestModelSmall(t *testing.T) {
	x := newRandom(3)
	met := map[string]int{}
	for range 60000 {
		rows, wide := x.from(2, 3), x.from(2, 3)
		file := ""
		for range rows {
			var line []byte
			for range wide {
				line = append(line, "  !!\"~"[x.IntN(6)])
			}
			file += string(line) + "\n"
		}
		file += "\n"
		met[fmt.Sprint("error ", wantModel(t, file))]++
		if _, mended, _ := files.Read(file); len(mended) > 0 {
			met["mended"]++
		}
	}
	wantMet(t, met, 100, "error 0", "error 141", "error 142", "mended")
}

func TestModelJoin(t *testing.T) {
	x := newRandom(4)
	met := map[string]int{}
	for range 20000 {
		a := x.file()
		b := a
		switch x.IntN(6) {
		case 0:
			b = x.file()
		case 1:
			b = x.damaged(b)
		default:
			a, _ = x.hit(a, 0, 2)
			b, _ = x.hit(b, 0, 2)
		}
		e := wantJoin(t, a, b)
		if f := wantJoin(t, b, a); f != e {
			t.Fatalf("Join of %q, %q: error %d; turned %d", a, b, e, f)
		}
		_, _, f := files.Read(a)
		_, _, g := files.Read(b)
		count(met, map[string]bool{fmt.Sprint("error ", e): true, "one is broken": e == api.OK && (f != api.OK) != (g != api.OK), "both are broken": e == api.OK && f != api.OK && g != api.OK})
	}
	wantMet(t, met, 100, "error 0", "error 140", "error 141", "error 142", "error 143", "one is broken", "both are broken")
}

// Copies of blocks that differ are joined as the model says, also where an error comes before another one.
func TestModelJoinOfAll(t *testing.T) {
	broken := put(fileX, 1, 'x', 2, 'x')
	other := sealed("\"ab", "!d ")
	blocks := []string{fileX, put(fileX, 2, 'x'), broken, other, put(other, 5, 'x'), sealed("#ab"), sealed("#cd"), strings.Repeat("  \n", 9) + "\n"}
	met := map[api.Errno]int{}
	for _, a := range blocks {
		for _, b := range blocks {
			met[wantJoin(t, a, b)]++
			for _, c := range blocks {
				for _, d := range blocks {
					met[wantJoin(t, a+b, c+d)]++
				}
			}
		}
	}
	for _, e := range []api.Errno{api.OK, api.ErrBlock, api.ErrForm, api.ErrCopies} {
		if met[e] < 20 {
			t.Errorf("error %d: %d", e, met[e])
		}
	}
}
