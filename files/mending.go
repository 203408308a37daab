package files

import "ferrule/api"

// state is how a block is.
type state int

const (
	whole state = iota
	mendable
	broken
)

// nowhere is the place of the mended byte of a block in which none is.
const nowhere = -1

// mend finds out how a block is. One that can be mended is mended, and the place of
// the byte in it is returned; all others stay as they are.
func (b block) mend() (state, int) {
	wide := len(b[0])
	lines := failing(len(b), func(line int) bool { return fails(b[line]) })
	columns := failing(wide, func(column int) bool { return fails(b.column(column)) })
	switch {
	case len(lines) == 0 && len(columns) == 0:
		return whole, nowhere
	case len(lines) == 1 && len(columns) == 1:
		b.change(lines[0], columns[0])
		return mendable, lines[0]*(wide+1) + columns[0] // each line has a line feed behind it
	}
	return broken, nowhere
}

// failing are the numbers below many of what fails.
func failing(many int, fails func(int) bool) []int {
	var all []int
	for i := range many {
		if fails(i) {
			all = append(all, i)
		}
	}
	return all
}

// change makes a line not fail by the byte in a column. Where no other line and no other
// column fails, this column does not fail then either: lines and columns sum up the same
// bytes, so that what the line was wrong by, the column was wrong by too.
func (b block) change(line, column int) {
	for value := range values {
		b[line][column] = written(value)
		if !fails(b[line]) {
			return
		}
	}
}

// joined returns which of two copies of a block counts, mended if it must be.
func joined(first, second block) (block, api.Errno) {
	is, _ := first.mend()
	other, _ := second.mend()
	switch {
	case is == broken && other == broken:
		return nil, api.ErrBlock
	case is == broken:
		return second, api.OK
	case other == broken:
		return first, api.OK
	case first.file() != second.file():
		return nil, api.ErrCopies
	}
	return first, api.OK
}

// read returns the texts of a file, and for each block the place in the file of the byte that was mended.
func read(file string) ([]string, []int, api.Errno) {
	blocks, ok := cut(file)
	if !ok {
		return nil, nil, api.ErrText
	}
	var places []int
	begin := 0
	for _, b := range blocks {
		is, place := b.mend()
		switch is {
		case broken:
			return nil, nil, api.ErrBlock
		case mendable:
			place += begin
		}
		places = append(places, place)
		begin += len(b.file())
	}
	texts, e := textsOf(blocks)
	if e != api.OK {
		return nil, nil, e
	}
	return texts, places, api.OK
}

// textsOf returns the texts whose file these blocks are.
func textsOf(blocks []block) ([]string, api.Errno) {
	var texts []string
	for _, b := range blocks {
		for _, row := range b[:len(b)-1] {
			long := valueOf(row[0])
			if long > len(row)-2 {
				return nil, api.ErrForm
			}
			texts = append(texts, string(row[1:1+long]))
		}
	}
	if file, e := Write(texts); e != api.OK || file != fileOf(blocks) {
		return nil, api.ErrForm
	}
	return texts, api.OK
}
