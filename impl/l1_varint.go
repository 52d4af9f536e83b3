package impl

import "strings"

// MaxVarint is the largest integer that can be encoded.
const MaxVarint = 1073741823

// MaxList is the largest number of integers in a list.
const MaxList = 20

// lengthShift is where the first byte of an encoding keeps its length: two
// bits with the length's logarithm. The bits below are the integer's highest.
const lengthShift = 6

// varint is an integer whose encodings have 1, 2 or 4 bytes.
type varint int

// size returns the length of the shortest encoding, or 0 if there is none.
func (v varint) size() int {
	switch {
	case v < 0 || v > MaxVarint:
		return 0
	case v < 1<<6:
		return 1
	case v < 1<<14:
		return 2
	}
	return 4
}

// encode returns the shortest encoding, or an empty string if there is none.
func (v varint) encode() string {
	switch v.size() {
	case 1:
		return string([]byte{byte(v)})
	case 2:
		return string([]byte{1<<lengthShift | byte(v>>8), byte(v)})
	case 4:
		return string([]byte{2<<lengthShift | byte(v>>24), byte(v >> 16), byte(v >> 8), byte(v)})
	}
	return ""
}

// readVarint returns the integer at the start of s and the length of its
// encoding, which is 0 if there is none.
func readVarint(s string) (varint, int) {
	if s == "" {
		return 0, 0
	}
	logarithm := s[0] >> lengthShift
	size := 1 << logarithm
	if logarithm > 2 || size > len(s) {
		return 0, 0
	}
	v := varint(s[0] & (1<<lengthShift - 1))
	for i := 1; i < size; i++ {
		v = v<<8 | varint(s[i])
	}
	return v, size
}

// VarintLen returns the number of bytes of the shortest encoding of n.
func VarintLen(n int) int {
	return varint(n).size()
}

// VarintEncode returns the shortest encoding of n.
func VarintEncode(n int) string {
	return varint(n).encode()
}

// VarintDecode decodes the integer at the start of s.
func VarintDecode(s string) (int, int, bool) {
	v, size := readVarint(s)
	return int(v), size, size > 0
}

// VarintMinimal reports whether s is the shortest encoding of an integer.
func VarintMinimal(s string) bool {
	v, size := readVarint(s)
	return size > 0 && size == len(s) && size == v.size()
}

// VarintJoin returns the shortest encodings of all integers, one after the other.
func VarintJoin(list []int) (string, bool) {
	if len(list) > MaxList {
		return "", false
	}
	var joined strings.Builder
	for _, n := range list {
		v := varint(n)
		if v.size() == 0 {
			return "", false
		}
		joined.WriteString(v.encode())
	}
	return joined.String(), true
}

// VarintSplit decodes all integers of s.
func VarintSplit(s string) ([]int, bool) {
	list := []int{}
	for s != "" {
		v, size := readVarint(s)
		if size == 0 || len(list) == MaxList {
			return []int{}, false
		}
		list = append(list, int(v))
		s = s[size:]
	}
	return list, true
}
