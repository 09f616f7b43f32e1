package run

import "oocore/api"

const wordSize = 4

// readData makes bytes of their digits.
func readData(digits string) ([]byte, error) {
	if len(digits)%(2*api.LineSize) != 0 || len(digits) > 2*api.MaxData {
		return nil, api.ErrImage
	}
	data := make([]byte, len(digits)/2)
	for k := range data {
		high, isHigh := digit(digits[2*k])
		low, isLow := digit(digits[2*k+1])
		if !isHigh || !isLow {
			return nil, api.ErrImage
		}
		data[k] = high<<4 | low
	}
	return data, nil
}

func digit(sign byte) (byte, bool) {
	switch {
	case '0' <= sign && sign <= '9':
		return sign - '0', true
	case 'a' <= sign && sign <= 'f':
		return sign - 'a' + 10, true
	case 'A' <= sign && sign <= 'F':
		return sign - 'A' + 10, true
	}
	return 0, false
}

// roomFor words is how many bytes of data have room for them: there are only whole lines.
func roomFor(words int) int {
	lines := (wordSize*words + api.LineSize - 1) / api.LineSize
	return lines * api.LineSize
}

// wordsOf data, the low byte of each first.
func wordsOf(data []byte) []uint32 {
	words := make([]uint32, len(data)/wordSize)
	for k := range words {
		for n := range wordSize {
			words[k] |= uint32(data[wordSize*k+n]) << (8 * n)
		}
	}
	return words
}
