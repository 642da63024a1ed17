package scan

import "bytes"

// Line is the line and the column of a place, from 1 on; a place out of the text is its nearer end.
func Line(src []byte, pos int) (int, int) {
	ahead := src[:min(max(pos, 0), len(src))]
	return 1 + bytes.Count(ahead, []byte{'\n'}), len(ahead) - bytes.LastIndexByte(ahead, '\n')
}
