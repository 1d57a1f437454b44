package wire

const maxWord = 65535

// Fold adds what passes a word at the low end again, till it is a word.
func Fold(sum int) int {
	for sum > maxWord {
		sum = sum&maxWord + sum>>16
	}
	return sum
}

// Sum is the folded sum of a text's words. Of an odd last byte Word makes the high byte of a word with 0.
func Sum(text string) int {
	sum := 0
	for at := 0; at < len(text); at += 2 {
		sum += Word(text, at)
	}
	return Fold(sum)
}
