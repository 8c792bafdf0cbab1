// Package times has moments, and windows of them.
package times

import "holloway/api"

// IsMoment says whether a number is a moment.
func IsMoment(at int) bool { return 0 <= at && at < api.End }

// IsWindow says whether a window is of moments; it can be empty.
func IsWindow(w api.Window) bool { return 0 <= w.From && w.From <= w.To && w.To <= api.End }

// Shared is how many moments are in both of two windows.
func Shared(v, w api.Window) int { return max(0, min(v.To, w.To)-max(v.From, w.From)) }
