package files_test

import (
	"reflect"
	"slices"
	"strings"
	"testing"

	"ferrule/api"
	"ferrule/files"
)

// broken is the file of X with a block that cannot be mended.
var broken = put(fileX, 2, 'x', 6, 'x')

// uncut are files that cannot be cut into blocks.
func uncut() map[string]string {
	wide := strings.Repeat(" ", 63)
	return map[string]string{
		"one line feed":            "\n",
		"two line feeds":           "\n\n",
		"three line feeds":         "\n\n\n",
		"four line feeds":          "\n\n\n\n",
		"a letter":                 "a",
		"a line":                   "ab\n",
		"an empty line more":       fileX + "\n",
		"an empty block":           fileX + "\n\n",
		"an empty line before":     "\n" + fileX,
		"an empty block before":    "\n\n" + fileX,
		"an empty line between":    fileX + "\n" + fileX,
		"an empty block between":   fileX + "\n\n" + fileX,
		"one line feed at the end": fileX[:len(fileX)-1],
		"no line feed at the end":  fileX[:len(fileX)-2],
		"a letter at the end":      fileX + "a",
		"a line at the end":        fileX + "ab\n",
		"one line in a block":      "\"abF\n\n",
		"one line behind a block":  fileX + "  \n\n",
		"ten lines":                strings.Repeat("  \n", 10) + "\n",
		"two blocks as one":        strings.Repeat("  \n", 18) + "\n",
		"a line that is shorter":   "\"abF\n!c d\n#Eb\n\n",
		"a line that is longer":    "\"abF\n!c dd\n#Eb+\n\n",
		"a first line longer":      "\"abFF\n!c d\n#Eb+\n\n",
		"lines of one byte":        " \n \n\n",
		"lines of 63 bytes":        wide + "\n" + wide + "\n\n",
		"a byte below all":         put(fileX, 2, 31),
		"a byte above all":         put(fileX, 2, 127),
		"a byte 0":                 put(fileX, 13, 0),
		"a byte 128":               put(fileX, 0, 128),
		"a byte 255":               put(fileX, 7, 255),
		"a letter of two bytes":    put(fileX, 1, 0xc3, 2, 0xa9),
		"line feeds with returns":  strings.ReplaceAll(fileX, "\n", "\r\n"),
		"a line feed in a line":    put(fileX, 2, '\n'),
		"a line feed that is lost": put(fileX, 4, ' '),
		"the last line feed lost":  put(fileX, 15, ' '),
		"blocks no longer apart":   put(fileX+fileX, 15, ' '),
	}
}

// unmended are files with a block that cannot be mended.
func unmended() map[string]string {
	return map[string]string{
		"two bytes of a line":      put(fileX, 1, 'x', 2, 'x'),
		"two bytes of a column":    put(fileX, 1, 'x', 6, 'x'),
		"two bytes apart":          broken,
		"two bytes, the same sum":  put(fileX, 1, 'b', 2, 'a'),
		"two checks of rows":       put(fileX, 3, 'x', 8, 'x'),
		"two bytes of the sum row": put(fileX, 10, 'x', 11, 'x'),
		"a row and the sum row":    put(fileX, 1, 'x', 11, 'x'),
		"two corners":              put(fileX, 0, 'x', 13, 'x'),
		"three bytes":              put(fileX, 0, 'x', 1, 'x', 5, 'x'),
		"a whole line":             put(fileX, 0, 'x', 1, 'x', 2, 'x', 3, 'x'),
		"the first of two":         broken + fileX,
		"the second of two":        blanks + broken,
		"the last of six":          strings.Repeat(blanks, 5) + broken,
		"a block that is no file":  put(sealed("#a "), 1, 'x', 2, 'x'),
		"behind a mended one":      put(blanks, 0, 'x') + broken,
	}
}

// unformed are files of blocks that are whole, but of no texts.
func unformed() map[string]string {
	return map[string]string{
		"a block that is not full":   fileX + fileX,
		"such before a full one":     fileX + blanks,
		"such between full ones":     blanks + fileX + blanks,
		"seven texts and one":        strings.Repeat("  \n", 8) + "\n" + "  \n  \n\n",
		"a row that is too wide":     sealed("!a "),
		"rows that are too wide":     sealed("\"ab ", "!a  "),
		"empty rows that are wide":   sealed(strings.Repeat(" ", 61)),
		"a length greater by one":    sealed("#ab"),
		"a length much greater":      sealed("\"ab", "~a "),
		"a length of 94":             sealed("~"),
		"a length of 61":             sealed("]" + strings.Repeat("a", 60)),
		"a length of 1, no text":     sealed("!"),
		"letters behind the text":    sealed("\"ab", "!cd"),
		"a letter behind blanks":     sealed("%abcde", "\"ab  c"),
		"letters behind no text":     sealed("\"ab", " a "),
		"41 texts":                   strings.Repeat(blanks, 5) + "  \n  \n\n",
		"48 texts":                   strings.Repeat(blanks, 6),
		"mended to no file":          put(sealed("#ab"), 1, 'x'),
		"the second one is no block": blanks + sealed("#ab"),
	}
}

// wantNoFile wants that a file cannot be read, and is counted so by Check.
func wantNoFile(t *testing.T, name, file string, want api.Errno) {
	t.Helper()
	if texts, mended, e := files.Read(file); e != want || len(texts)+len(mended) > 0 {
		t.Errorf("%s: Read = %q, %v, error %d", name, texts, mended, e)
	}
	if places, e := files.Damage(file); e != want || len(places) > 0 {
		t.Errorf("%s: Damage = %v, error %d", name, places, e)
	}
	for _, d := range []api.Desk{{}, desk()} { // the desk comes last, whether it is valid or not
		if answers, after, e := files.Replay(d, file); e != want || len(answers) > 0 || !reflect.DeepEqual(after, api.Desk{}) {
			t.Errorf("%s: Replay = %q, %+v, error %d", name, answers, after, e)
		}
	}
	if texts, e := files.Join(file, file); e != want || len(texts) > 0 {
		t.Errorf("%s: Join = %q, error %d", name, texts, e)
	}
	blocks, damaged, e := files.Check(file)
	if cut := want != api.ErrText; (e == api.OK) != cut || !cut && (e != api.ErrText || blocks != 0 || damaged != 0) || cut && blocks == 0 || want == api.ErrBlock && damaged == 0 {
		t.Errorf("%s: Check = %d, %d, error %d", name, blocks, damaged, e)
	}
}

func TestP1Unread(t *testing.T) {
	for name, file := range uncut() {
		wantNoFile(t, name, file, api.ErrText)
	}
	for name, file := range unmended() {
		wantNoFile(t, name, file, api.ErrBlock)
	}
	for name, file := range unformed() {
		wantNoFile(t, name, file, api.ErrForm)
	}
}

// A file that cannot be cut comes before a block that cannot be mended, and this before what is no file, wherever they are.
func TestP1Order(t *testing.T) {
	for name, file := range uncut() {
		for other, also := range unmended() {
			wantNoFile(t, other+", "+name, also+file, api.ErrText)
		}
		for other, also := range unformed() {
			wantNoFile(t, other+", "+name, also+file, api.ErrText)
		}
	}
	for name, file := range unmended() {
		for other, also := range unformed() {
			wantNoFile(t, name+", "+other, file+also, api.ErrBlock)
			wantNoFile(t, other+", "+name, also+file, api.ErrBlock)
		}
	}
}

// Of two copies the first block with an error decides, after both were cut.
func TestP1OrderOfJoin(t *testing.T) {
	other := write(t, "ab", "d")
	form := sealed("#ab")
	for i, x := range []struct {
		a, b string
		want api.Errno
	}{
		{broken, fileX + "\n", api.ErrText},
		{fileX, other + "\n", api.ErrText},
		{broken, broken + broken, api.ErrText},
		{fileX, other + other, api.ErrText},
		{form, form + form, api.ErrText},
		{broken + fileX, broken + other, api.ErrBlock},
		{fileX + broken, other + broken, api.ErrCopies},
		{form + broken, form + broken, api.ErrBlock},
		{broken + form, broken + form, api.ErrBlock},
		{form + fileX, form + other, api.ErrCopies},
		{fileX + form, other + form, api.ErrCopies},
		{form + fileX, form + broken, api.ErrForm},
		{form, fileX, api.ErrCopies},
		{form, put(form, 1, 'x'), api.ErrForm},
	} {
		for _, pair := range [][2]string{{x.a, x.b}, {x.b, x.a}} {
			if texts, e := files.Join(pair[0], pair[1]); e != x.want || len(texts) > 0 {
				t.Errorf("%d: Join of %q = %q, error %d", i, pair, texts, e)
			}
		}
	}
}

// askAll asks all of any texts, and wants that nothing is returned with an error.
func askAll(t *testing.T, one, other string) {
	t.Helper()
	texts, mended, e := files.Read(one)
	places, f := files.Damage(one)
	answers, after, g := files.Replay(desk(), one)
	blocks, damaged, h := files.Check(one)
	both, j := files.Join(one, other)
	file, k := files.Write([]string{one, other})
	if e != api.OK && len(texts)+len(mended) > 0 || f != e || e != api.OK && len(places) > 0 || g != e || e != api.OK && (len(answers) > 0 || !reflect.DeepEqual(after, api.Desk{})) ||
		h != api.OK && (blocks != 0 || damaged != 0) || j != api.OK && len(both) > 0 || k != api.OK && file != "" {
		t.Fatalf("%q, %q: Read = %q, %v, error %d; Damage = %v, %d; Replay = %q, %+v, %d; Check = %d, %d, %d; Join = %q, %d; Write = %q, %d", one, other, texts, mended, e, places, f, answers, after, g, blocks, damaged, h, both, j, file, k)
	}
}

func TestP1AnyText(t *testing.T) {
	const some = "\n\n\n\n  !!~~a\x1f\x7f\x00\xff\xc3\xa9"
	x := newRandom(11)
	all := []string{"", "\n", "\n\n", " ", "\x00", "\xff\n\n", strings.Repeat("\n", 1000), strings.Repeat(" \n", 1000), strings.Repeat("a", 1000) + "\n\n", strings.Repeat("é\né\n\n", 100)}
	for range 3000 {
		var b []byte
		for range x.from(0, 40) {
			b = append(b, some[x.IntN(len(some))])
		}
		all = append(all, string(b), string(b)+"\n\n", x.file())
	}
	for i, one := range all {
		askAll(t, one, all[x.IntN(len(all))])
		askAll(t, one, one)
		askAll(t, one, all[max(0, i-1)])
	}
}

// Files that are much too long are read to their ends all the same.
func TestP1LongFiles(t *testing.T) {
	const many = 20000
	long := strings.Repeat(blanks, many)
	wantNoFile(t, "many blocks", long, api.ErrForm)
	wantNoFile(t, "many broken blocks", strings.Repeat(broken, many), api.ErrBlock)
	wantNoFile(t, "many blocks and a broken one", long+broken, api.ErrBlock)
	wantNoFile(t, "many blocks and one more line feed", long+"\n", api.ErrText)
	if blocks, damaged, e := files.Check(long + strings.Repeat(broken, many)); blocks != 2*many || damaged != many || e != api.OK {
		t.Errorf("Check = %d, %d, error %d", blocks, damaged, e)
	}
}

// Arguments stay as they are, and the same is returned each time, whatever became of the results.
func TestP1Memory(t *testing.T) {
	texts := numbered(30)
	said := slices.Clone(texts)
	file := write(t, texts...)
	hurt := put(file, 3, 'x', len(file)-3, 'x')
	for range 2 {
		if write(t, texts...) != file || !slices.Equal(texts, said) {
			t.Fatalf("Write changed %q", texts)
		}
		is, mended, e := files.Read(hurt)
		places, f := files.Damage(hurt)
		both, g := files.Join(hurt, file)
		answers, after, h := files.Replay(desk(), hurt)
		if !slices.Equal(is, said) || !slices.Equal(mended, []int{0, 3}) || e != api.OK || !slices.Equal(places, []int{3, -1, -1, len(file) - 3}) || f != api.OK || !slices.Equal(both, said) || g != api.OK || len(answers) != 30 || !same(after, desk()) || h != api.OK {
			t.Fatalf("Read = %q, %v, error %d; Damage = %v, %d; Join = %q, %d; Replay = %q, %+v, %d", is, mended, e, places, f, both, g, answers, after, h)
		}
		clear(is)
		clear(mended)
		clear(places)
		clear(both)
		clear(answers)
		after.Shop.Stock[0], after.Counter.Slips[0].Id = 99, 99
	}
	write(t, texts[:3]...)
	if !slices.Equal(texts, said) {
		t.Errorf("Write changed what is behind the end: %q", texts)
	}
}

func TestP1NilAndEmpty(t *testing.T) {
	for _, texts := range [][]string{nil, {}} {
		if file, e := files.Write(texts); file != "" || e != api.OK {
			t.Errorf("Write = %q, error %d", file, e)
		}
	}
	texts, mended, e := files.Read("")
	places, f := files.Damage("")
	both, g := files.Join("", "")
	blocks, damaged, h := files.Check("")
	if len(texts)+len(mended)+len(places)+len(both)+blocks+damaged > 0 || e != api.OK || f != api.OK || g != api.OK || h != api.OK {
		t.Errorf("Read = %q, %v, error %d; Damage = %v, %d; Join = %q, %d; Check = %d, %d, %d", texts, mended, e, places, f, both, g, blocks, damaged, h)
	}
}
