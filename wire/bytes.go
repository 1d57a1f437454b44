// Package wire knows the form of packets: how their bytes are read, checked and made. It knows nothing of who may send them.
package wire

// Byte is 0 where the text has no such byte, so that no index can panic.
func Byte(text string, at int) int {
	if at < 0 || at >= len(text) {
		return 0
	}
	return int(text[at])
}

// Word is the number of two bytes at a place.
func Word(text string, at int) int {
	return Byte(text, at)<<8 + Byte(text, at+1)
}

// Address is the number of four bytes at a place.
func Address(text string, at int) int {
	return Word(text, at)<<16 + Word(text, at+2)
}

// PutWord answers the text with another word at a place, or as it is where it has no such place.
func PutWord(text string, at int, word int) string {
	if at < 0 || at > len(text)-2 {
		return text
	}
	return text[:at] + string([]byte{byte(word >> 8), byte(word)}) + text[at+2:]
}

// PutAddress answers the text with another address at a place.
func PutAddress(text string, at int, address int) string {
	high := PutWord(text, at, address>>16)
	return PutWord(high, at+2, address)
}
